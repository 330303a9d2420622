/- code: lines and code, there and back. -/
import Derived.Test.YtddaajdcoifmoaaDoorPackA
import Derived.Test.YtddaajdcoifmoaaDoorPackB
import Derived.Test.YtddaajdcoifmoaaDoorPackC
import Derived.Maps.OwnSet
import Derived.ProofKit
import Derived.OpenShut
import Derived.ShutString
import Derived.ChangeOld
import Derived.Lib.SmallJoins
import Derived.SizedLaws
import Derived.SliceStrings
namespace Go.Proofs.YtddaajdcoifmoaaDoor
namespace Cd
/-- How an operation is written. -/
def ln (x : Nat) (b : List UInt8) : List UInt8 := if nm x = [] then px [UInt8.ofNat x] else if 0 < psh (x : Int) then nm x ++ [32] ++ px b else nm x
/-- Code by lines. -/
def dis : List UInt8 → List (List UInt8)
  | [] => []
  | x :: r => ln x.toNat (r.take (psh (x.toNat : Int))) :: dis (r.drop (psh (x.toNat : Int)))
termination_by c => c.length
decreasing_by simp; omega
theorem dis_nil : dis [] = [] := by rw [dis]
theorem dis_cons (x : UInt8) (r : List UInt8) : dis (x :: r) = ln x.toNat (r.take (psh (x.toNat : Int))) :: dis (r.drop (psh (x.toNat : Int))) := by rw [dis]
/-- The operation of a name. -/
def inv (l : List UInt8) : Option Nat := if l = [] then none else (List.range 256).find? fun x => nm x == l
theorem inv_nm : ∀ x : Nat, x < 256 → nm x ≠ [] → inv (nm x) = some x := by
  have h : (List.range 256).all (fun x => decide (nm x = []) || decide (inv (nm x) = some x)) = true := by decide +kernel
  intro x hx hn
  have := List.all_eq_true.1 h x (List.mem_range.2 hx)
  simpa [hn] using this
theorem inv_some {l : List UInt8} {x : Nat} (h : inv l = some x) : nm x = l ∧ x < 256 ∧ l ≠ [] := by
  unfold inv at h
  split at h
  · cases h
  · rename_i hl
    have h1 := List.find?_some h
    have h2 := List.mem_of_find?_eq_some h
    exact ⟨by simpa using h1, List.mem_range.1 h2, hl⟩
theorem nm_plain : ∀ x : Nat, x < 256 → ∀ c ∈ nm x, c ≠ 32 := by
  have h : (List.range 256).all (fun x => (nm x).all (fun c => decide (c ≠ 32))) = true := by decide +kernel
  intro x hx c hc
  have := List.all_eq_true.1 (List.all_eq_true.1 h x (List.mem_range.2 hx)) c hc
  simpa using this
theorem nm_head : ∀ x : Nat, x < 256 → (nm x).take 1 ≠ [48] := by
  have h : (List.range 256).all (fun x => decide ((nm x).take 1 ≠ [48])) = true := by decide +kernel
  intro x hx
  have := List.all_eq_true.1 h x (List.mem_range.2 hx)
  simpa using this
theorem push_nm : ∀ x : Nat, x < 256 → 0 < psh (x : Int) → nm x ≠ [] := by
  have h : (List.range 256).all (fun x => decide (psh (x : Int) = 0) || decide (nm x ≠ [])) = true := by decide +kernel
  intro x hx hp
  have := List.all_eq_true.1 h x (List.mem_range.2 hx)
  simp only [Bool.or_eq_true, decide_eq_true_eq] at this
  rcases this with h1 | h1
  · omega
  · exact h1
theorem nm_len : ∀ x : Nat, (nm x).length ≤ 8 := by
  have h : (List.range 256).all (fun x => decide ((nm x).length ≤ 8)) = true := by decide +kernel
  intro x
  by_cases hx : x < 256
  · have := List.all_eq_true.1 h x (List.mem_range.2 hx)
    simpa using this
  · have hl : nmT.length = 256 := by decide +kernel
    have e : nm x = [] := by
      unfold nm
      rw [List.getD_eq_getElem?_getD, List.getElem?_eq_none (by omega)]
      rfl
    rw [e]
    exact Nat.zero_le _
/-- A text at its first blank: ahead of it, behind it, whether there is one. -/
def cutB : List UInt8 → List UInt8 × List UInt8 × Bool
  | [] => ([], [], false)
  | c :: r => if c = 32 then ([], r, true) else (c :: (cutB r).1, (cutB r).2.1, (cutB r).2.2)
theorem cutB_none : ∀ l : List UInt8, (∀ c ∈ l, c ≠ 32) → cutB l = (l, [], false)
  | [], _ => rfl
  | c :: r, h => by
    rw [cutB, if_neg (h c (List.mem_cons_self ..)), cutB_none r (fun d hd => h d (List.mem_cons_of_mem _ hd))]
theorem cutB_at : ∀ (l m : List UInt8), (∀ c ∈ l, c ≠ 32) → cutB (l ++ 32 :: m) = (l, m, true)
  | [], m, _ => by rw [List.nil_append, cutB, if_pos rfl]
  | c :: r, m, h => by
    rw [List.cons_append, cutB, if_neg (h c (List.mem_cons_self ..)), cutB_at r m (fun d hd => h d (List.mem_cons_of_mem _ hd))]
theorem cutB_back : ∀ l : List UInt8, l = (cutB l).1 ++ (if (cutB l).2.2 then 32 :: (cutB l).2.1 else [])
  | [] => rfl
  | c :: r => by
    have ih := cutB_back r
    rw [cutB]
    split
    · rename_i h; subst h; rfl
    · show c :: r = c :: ((cutB r).1 ++ _)
      rw [← ih]
/-- The bytes that a text is the form of. -/
def prs (l : List UInt8) : Option (List UInt8) := if Ps l then some (bl l ((l.length - 2) / 2)) else none
theorem prs_px (b : List UInt8) : prs (px b) = some b := by
  unfold prs
  rw [if_pos (px_ps b), px_bl]
theorem prs_some {l b : List UInt8} (h : prs l = some b) : px b = l := by
  unfold prs at h
  split at h
  · injection h with h
    rw [← h]
    exact px_back l (by assumption)
  · cases h
/-- What a line is read as. -/
def rdl (l : List UInt8) : Option (Nat × List UInt8) :=
  match inv (cutB l).1 with
  | none => match prs l with
    | some [b] => if nm b.toNat = [] then some (b.toNat, []) else none
    | _ => none
  | some x =>
    if (cutB l).2.2 then
      match prs (cutB l).2.1 with
      | some b => if psh (x : Int) = 0 ∨ psh (x : Int) < b.length then none else some (x, b)
      | none => none
    else if psh (x : Int) = 0 then some (x, []) else none
theorem dsg_plain : ∀ d : Nat, d < 16 → dsg d ≠ 32 := by decide +kernel
theorem hexs_plain (f : Nat → Nat) (hf : ∀ j, f j < 256) : ∀ k, ∀ c ∈ hexs f k, c ≠ 32
  | 0, c, hc => by cases hc
  | k + 1, c, hc => by
    rw [hexs, List.mem_append] at hc
    rcases hc with hc | hc
    · exact hexs_plain f hf k c hc
    · simp only [List.mem_cons, List.not_mem_nil, or_false] at hc
      have := hf k
      rcases hc with rfl | rfl
      · exact dsg_plain _ (by omega)
      · exact dsg_plain _ (by omega)
theorem px_plain (b : List UInt8) : ∀ c ∈ px b, c ≠ 32 := by
  intro c hc
  unfold px at hc
  rw [List.mem_cons, List.mem_cons] at hc
  rcases hc with rfl | rfl | hc
  · decide
  · decide
  · exact hexs_plain _ (fun j => by have := Sp.bz_lt b j; omega) _ c hc
theorem inv_px (b : List UInt8) : inv (px b) = none := by
  cases h : inv (px b) with
  | none => rfl
  | some x =>
    obtain ⟨h1, h2, -⟩ := inv_some h
    exact absurd (by rw [h1]; rfl) (nm_head x h2)
theorem rdl_ln (x : Nat) (hx : x < 256) (b : List UInt8) (hb : b.length ≤ psh (x : Int)) : rdl (ln x b) = some (x, b) := by
  have hx' : (UInt8.ofNat x).toNat = x := by simp; omega
  unfold ln
  by_cases h0 : nm x = []
  · rw [if_pos h0]
    have hp : psh (x : Int) = 0 := by
      by_cases hp : 0 < psh (x : Int)
      · exact absurd h0 (push_nm x hx hp)
      · omega
    have e : b = [] := List.length_eq_zero_iff.1 (by omega)
    subst e
    unfold rdl
    rw [cutB_none _ (px_plain _), inv_px, prs_px]
    dsimp only
    rw [hx', if_pos h0]
  · rw [if_neg h0]
    by_cases hp : 0 < psh (x : Int)
    · rw [if_pos hp, List.append_assoc]
      show rdl (nm x ++ 32 :: px b) = _
      unfold rdl
      rw [cutB_at _ _ (nm_plain x hx)]
      dsimp only
      rw [inv_nm x hx h0]
      dsimp only
      rw [if_pos rfl, prs_px]
      dsimp only
      rw [if_neg (by omega)]
    · rw [if_neg hp]
      have e : b = [] := List.length_eq_zero_iff.1 (by omega)
      subst e
      unfold rdl
      rw [cutB_none _ (nm_plain x hx), inv_nm x hx h0]
      dsimp only
      rw [if_neg (by decide), if_pos (by omega)]
theorem rdl_some {l : List UInt8} {x : Nat} {b : List UInt8} (h : rdl l = some (x, b)) : x < 256 ∧ b.length ≤ psh (x : Int) ∧ ln x b = l := by
  unfold rdl at h
  split at h
  · split at h
    · rename_i y hy
      split at h
      · rename_i hn
        injection h with h
        injection h with h1 h2
        subst h1 h2
        have e := prs_some hy
        refine ⟨y.toNat_lt, Nat.zero_le _, ?_⟩
        unfold ln
        rw [if_pos hn, ← e]
        simp
      · cases h
    · cases h
  · rename_i y hy
    obtain ⟨i1, i2, i3⟩ := inv_some hy
    have hb := cutB_back l
    split at h
    · rename_i hc
      split at h
      · rename_i c hpc
        split at h
        · cases h
        · rename_i hg
          injection h with h
          injection h with h1 h2
          subst h1 h2
          have e := prs_some hpc
          refine ⟨i2, by omega, ?_⟩
          unfold ln
          rw [if_neg (by rw [i1]; exact i3), if_pos (by omega), e, i1, List.append_assoc]
          rw [if_pos hc] at hb
          exact hb.symm
      · cases h
    · rename_i hc
      split at h
      · rename_i hp
        injection h with h
        injection h with h1 h2
        subst h1 h2
        refine ⟨i2, Nat.zero_le _, ?_⟩
        unfold ln
        rw [if_neg (by rw [i1]; exact i3), if_neg (by omega), i1]
        rw [if_neg hc, List.append_nil] at hb
        exact hb.symm
      · cases h
/-- The code that lines are those of. -/
def asm : List (List UInt8) → Option (List UInt8)
  | [] => some []
  | l :: r => match rdl l with
    | none => none
    | some (x, b) => if b.length < psh (x : Int) ∧ r ≠ [] then none else (asm r).map fun c => UInt8.ofNat x :: (b ++ c)
theorem asm_dis : ∀ (n : Nat) (c : List UInt8), c.length ≤ n → asm (dis c) = some c
  | _, [], _ => by rw [dis_nil]; rfl
  | 0, x :: r, h => by simp at h
  | n + 1, x :: r, h => by
    have hx := x.toNat_lt
    rw [dis_cons, asm, rdl_ln x.toNat hx _ (by rw [List.length_take]; omega)]
    dsimp only
    rw [asm_dis n _ (by rw [List.length_drop]; simp at h; omega), if_neg]
    · simp
    · rintro ⟨h1, h2⟩
      rw [List.length_take] at h1
      rw [List.drop_eq_nil_of_le (by omega), dis_nil] at h2
      exact h2 rfl
theorem dis_asm : ∀ (ls : List (List UInt8)) (c : List UInt8), asm ls = some c → dis c = ls
  | [], c, h => by
    injection h with h
    rw [← h, dis_nil]
  | l :: r, c, h => by
    rw [asm] at h
    split at h
    · cases h
    · rename_i x b hr
      obtain ⟨h1, h2, h3⟩ := rdl_some hr
      split at h
      · cases h
      · rename_i hs
        cases ha : asm r with
        | none => rw [ha] at h; cases h
        | some d =>
          rw [ha] at h
          have h : UInt8.ofNat x :: (b ++ d) = c := by simpa using h
          have ih := dis_asm r d ha
          have hx' : (UInt8.ofNat x).toNat = x := by simp; omega
          have e : (b ++ d).take (psh (x : Int)) = b ∧ (b ++ d).drop (psh (x : Int)) = d := by
            by_cases hf : b.length < psh (x : Int)
            · have hr0 : r = [] := Classical.byContradiction fun hr0 => hs ⟨hf, hr0⟩
              subst hr0
              have hd : d = [] := by
                injection ha with ha
                exact ha.symm
              subst hd
              rw [List.append_nil]
              exact ⟨List.take_of_length_le (by omega), List.drop_eq_nil_of_le (by omega)⟩
            · have hf : psh (x : Int) = b.length := by omega
              rw [hf]
              exact ⟨List.take_left, List.drop_left⟩
          rw [← h, dis_cons, hx', e.1, e.2, ih, h3]
end Cd
end Go.Proofs.YtddaajdcoifmoaaDoor
/- code: rows of strings; an operation's line. -/
namespace Go.Proofs.YtddaajdcoifmoaaDoor
namespace Cd
open Go.RowKit
def scs (l : List (List UInt8)) : List Value := l.map fun x => Value.string (sb x)
theorem scs_len (l : List (List UInt8)) : (scs l).length = l.length := by simp [scs]
/-- A row of strings of a call's own. -/
def Rg (B : Nat) (l : List (List UInt8)) (v : Value) (w : World) : Prop := w.ownsRow B 9 1 v l.length (scs l)
theorem Rg_below {B : Nat} {l : List (List UInt8)} {v : Value} {w w' : World} (h : Rg B l v w) (hb : Below w.heap.size w w') : Rg B l v w' := h.kept (⟨hb.os, hb.tape, hb.output, hb.size, fun j hj _ => hb.block j hj⟩ : w.grownBy w' none) ((Classical.em (v.ownBlock = none)).elim .inl .inr)
theorem infoS : (Tryd.prog.info? 9).map (fun i => (i.zero, i.size, i.bytes)) = some (some (.string ByteArray.empty), 1, 16) := by kernel_rfl
theorem app_s {base : Nat} {l : List (List UInt8)} {v : Value} {w : World} (ty : TypeId) (x : List UInt8) (g : Nat) (h : Rg base l v w) (hbase : base ≤ w.heap.size) (hg : w.cell? ⟨g, 0, none⟩ = some (.string (sb x))) (hlen : l.length + 1 ≤ 4194304) :
    ∃ v' w', (Builtin.append_ #[25, 25] ty #[v, .slice (some ⟨g, 0, none⟩) 1 1]).run Tryd.prog w = .ok v' w' ∧ Rg base (l ++ [x]) v' w' ∧ Below base w w' := by
  obtain ⟨i0, hi, hz0, hz1, hz2⟩ := info_parts infoS
  obtain ⟨v', w', hr, ho, hgr, _⟩ := run_append_own (P := Tryd.prog) w base 25 ty 9 i0 _ 1 16 Tryd.underlying25 hi hz0 hz1 hz2 rfl (by decide) v l.length (scs l) h ⟨g, 0, none⟩ 1 1 [.string (sb x)] rfl
    (fun j u hj => by
      have hj' : j < 1 := (List.getElem?_eq_some_iff.1 hj).1
      obtain rfl : j = 0 := by omega
      simp at hj
      subst hj
      rw [Sp.add_lit]
      exact hg) (fun u hu => by simp at hu; subst hu; rfl) (by unfold maxLen; omega) (by omega) hbase
  refine ⟨v', w', hr, ?_, (Below.refl _ _ |>.mono hbase).trans ((Below.refl _ _).grown hgr hbase (fun k hk => (Sp.own_lo h k hk).1))⟩
  unfold Rg
  rw [List.length_append]
  show w'.ownsRow base _ 1 v' (l.length + 1) _
  have e : scs (l ++ [x]) = scs l ++ [.string (sb x)] := by simp [scs]
  rw [e]
  exact ho
theorem sb_list (l : List UInt8) : (sb l).toList = l := by simp [sb, ByteArray.toList_eq]
theorem lit1 (x : Nat) (hx : x < 256) (w : World) : Sl [UInt8.ofNat x] (.slice (some ⟨w.heap.size, 0, none⟩) 1 1) (w.alloc (.cells #[.int .u8 (x : Int)] 5)) := by
  refine ⟨_, 1, rfl, Nat.le_refl _, fun _ => ⟨w.heap.size, 0, rfl, by simp, fun j hj => ?_⟩⟩
  obtain rfl : j = 0 := by simp at hj; omega
  have hN := heap_alloc_new w (.cells #[.int .u8 (x : Int)] 5 (0, 0))
  have e : Sp.bz [UInt8.ofNat x] 0 = (x : Int) := by
    unfold Sp.bz
    show (((UInt8.ofNat x).toNat : Nat) : Int) = _
    rw [show (UInt8.ofNat x).toNat = x by simp; omega]
  rw [e]
  simp only [World.cell?, hN]
  rfl
set_option maxRecDepth 100000 in
theorem line_none (x : Nat) (hx : x < 256) (h0 : nm x = []) (b : List UInt8) (ao : Option Addr) (n cap : Nat) (w : World) : Calls Tryd.prog 32 #[.agg #[.int .u8 (x : Int), .slice ao n cap]] w fun e w' => e = .returned (.string (sb (ln x b))) ∧ Below w.heap.size w w' := by
  have e : ln x b = px [UInt8.ofNat x] := by unfold ln; rw [if_pos h0]
  rw [e]
  have KN : Hid (∀ W : World, Calls Tryd.prog 8 #[.int .u8 (x : Int)] W fun e w' => e = .returned (.string ⟨#[]⟩) ∧ Below W.heap.size W w') := fun W => by
    have := name_any x hx W
    rw [h0] at this
    exact this
  have KQ : Hid (∀ W : World, Calls Tryd.prog 45 #[.slice (some ⟨W.heap.size, 0, none⟩) 1 1] (W.alloc (.cells #[.int .u8 (x : Int)] 5)) fun e w' => e = .returned (.string (sb (px [UInt8.ofNat x]))) ∧ Below W.heap.size W w') := fun W => (print_sl (by show 1 ≤ _; omega) (lit1 x hx W)).mono fun e w' he => ⟨he.1, ((Below.refl _ _).alloc (Nat.le_refl _) _).trans (he.2.mono (by simp))⟩
  generalize px [UInt8.ofNat x] = L at *
  clear e h0 hx
  generalize (x : Int) = X at *
  go_enter Tryd.func32, Tryd.ntmps32
  go_wp2_with fail
  have c0 : (w.alloc (.cells #[.int .u8 X, .slice ao n cap] 47)).cell? ⟨w.heap.size, 0, none⟩ = some (.int .u8 X) := by simp
  have b0 : Below w.heap.size w (w.alloc (.cells #[.int .u8 X, .slice ao n cap] 47)) := (Below.refl _ _).alloc (Nat.le_refl _) _
  have z0 : w.heap.size < (w.alloc (.cells #[.int .u8 X, .slice ao n cap] 47)).heap.size := by simp
  generalize w.alloc (.cells #[.int .u8 X, .slice ao n cap] 47) = W0 at *
  refine (KN.out W0).mono ?_
  rintro e w1 ⟨rfl, b1⟩
  have c1 := (b1.cell (p := ⟨w.heap.size, 0, none⟩) z0).trans c0
  have B1 : Hid (Below w.heap.size w w1) := b0.trans (b1.mono b0.size)
  clear b0 b1 c0 z0 KN
  go_wp2_with fail
  refine (KQ.out w1).mono ?_
  rintro e w2 ⟨rfl, b2⟩
  have B2 : Hid (Below w.heap.size w w2) := B1.out.trans (b2.mono B1.out.size)
  clear b2 B1 KQ c1
  go_wp2_with fail
  go_ret
  exact ⟨rfl, B2.out⟩
theorem sb_ne {l : List UInt8} (h : l ≠ []) : (sb l).toList.isEmpty = false := by
  rw [sb_list]
  cases l with
  | nil => exact absurd rfl h
  | cons a r => rfl
set_option maxRecDepth 100000 in
theorem line_plain (x : Nat) (hx : x < 256) (h0 : nm x ≠ []) (hp : psh (x : Int) = 0) (b : List UInt8) (ao : Option Addr) (n cap : Nat) (w : World) : Calls Tryd.prog 32 #[.agg #[.int .u8 (x : Int), .slice ao n cap]] w fun e w' => e = .returned (.string (sb (ln x b))) ∧ Below w.heap.size w w' := by
  have e : ln x b = nm x := by unfold ln; rw [if_neg h0, if_neg (by omega)]
  rw [e]
  have KN : Hid (∀ W : World, Calls Tryd.prog 8 #[.int .u8 (x : Int)] W fun e w' => e = .returned (.string (sb (nm x))) ∧ Below W.heap.size W w') := fun W => name_any x hx W
  have KU : Hid (∀ W : World, Calls Tryd.prog 36 #[.int .u8 (x : Int)] W fun e w' => e = .returned (.int .i64 (psh (x : Int) : Int)) ∧ Below W.heap.size W w') := fun W => pushed_any _ (by omega) (by omega) W
  have hne := sb_ne h0
  rw [hp] at KU
  clear e h0 hx hp
  generalize sb (nm x) = N at *
  generalize (x : Int) = X at *
  go_enter Tryd.func32, Tryd.ntmps32
  go_wp2_with fail
  have c0 : (w.alloc (.cells #[.int .u8 X, .slice ao n cap] 47)).cell? ⟨w.heap.size, 0, none⟩ = some (.int .u8 X) := by simp
  have e0 : (w.alloc (.cells #[.int .u8 X, .slice ao n cap] 47)).cell? ⟨w.heap.size, 1, none⟩ = some (.slice ao n cap) := by simp
  have b0 : Below w.heap.size w (w.alloc (.cells #[.int .u8 X, .slice ao n cap] 47)) := (Below.refl _ _).alloc (Nat.le_refl _) _
  have z0 : w.heap.size < (w.alloc (.cells #[.int .u8 X, .slice ao n cap] 47)).heap.size := by simp
  generalize w.alloc (.cells #[.int .u8 X, .slice ao n cap] 47) = W0 at *
  refine (KN.out W0).mono ?_
  rintro e w1 ⟨rfl, b1⟩
  have c1 := (b1.cell (p := ⟨w.heap.size, 0, none⟩) z0).trans c0
  have e1 := (b1.cell (p := ⟨w.heap.size, 1, none⟩) z0).trans e0
  have B1 : Hid (Below w.heap.size w w1) := b0.trans (b1.mono b0.size)
  have Z1 : Hid (w.heap.size < w1.heap.size) := Nat.lt_of_lt_of_le z0 b1.size
  clear b0 b1 c0 e0 z0 KN
  go_wp2_with fail
  refine (KU.out w1).mono ?_
  rintro e w2 ⟨rfl, b2⟩
  have B2 : Hid (Below w.heap.size w w2) := B1.out.trans (b2.mono B1.out.size)
  have e2 := (b2.cell (p := ⟨w.heap.size, 1, none⟩) Z1.out).trans e1
  clear b2 B1 c1 e1 KU Z1
  clear e2
  go_wp2_with fail
  go_ret
  exact ⟨rfl, B2.out⟩
set_option maxRecDepth 100000 in
theorem line_push (x : Nat) (hx : x < 256) (h0 : nm x ≠ []) (hp : 0 < psh (x : Int)) (b : List UInt8) (hb : Hid (b.length ≤ 1048576)) (ao : Option Addr) (n cap : Nat) (w : World) (h : Hid (Sl b (.slice ao n cap) w)) : Calls Tryd.prog 32 #[.agg #[.int .u8 (x : Int), .slice ao n cap]] w fun e w' => e = .returned (.string (sb (ln x b))) ∧ Below w.heap.size w w' := by
  have e : ln x b = nm x ++ [32] ++ px b := by unfold ln; rw [if_neg h0, if_pos hp]
  rw [e]
  have KN : Hid (∀ W : World, Calls Tryd.prog 8 #[.int .u8 (x : Int)] W fun e w' => e = .returned (.string (sb (nm x))) ∧ Below W.heap.size W w') := fun W => name_any x hx W
  have KU : Hid (∀ W : World, Calls Tryd.prog 36 #[.int .u8 (x : Int)] W fun e w' => e = .returned (.int .i64 (psh (x : Int) : Int)) ∧ Below W.heap.size W w') := fun W => pushed_any _ (by omega) (by omega) W
  have hne := sb_ne h0
  have KQ : Hid (∀ W : World, Below w.heap.size w W → Calls Tryd.prog 45 #[.slice ao n cap] W fun e w' => e = .returned (.string (sb (px b))) ∧ Below W.heap.size W w') := fun W hW => (print_sl hb (Sl_below h.out hW)).mono fun e w' he => ⟨he.1, he.2⟩
  have hl := nm_len x
  have hq := px_len b
  have ka : ∀ w : World, (Op.stringOp .add (sb (nm x)) ⟨#[32]⟩).run Tryd.prog w = .ok (.string (sb (nm x ++ [32]))) w := cat_ll (nm x) [32] (by simp; omega)
  have kb : ∀ w : World, (Op.stringOp .add (sb (nm x ++ [32])) (sb (px b))).run Tryd.prog w = .ok (.string (sb (nm x ++ [32] ++ px b))) w := cat_ll (nm x ++ [32]) (px b) (by have := hb.out; simp; omega)
  have hp : (0 : Int) < (psh (x : Int) : Int) := by omega
  clear e h0 hx hl hq hb h
  generalize sb (nm x) = N at *
  generalize sb (nm x ++ [32]) = N1 at *
  generalize sb (nm x ++ [32] ++ px b) = N2 at *
  generalize sb (px b) = N3 at *
  generalize (psh (x : Int) : Int) = P at *
  generalize (x : Int) = X at *
  go_enter Tryd.func32, Tryd.ntmps32
  go_wp2_with fail
  have c0 : (w.alloc (.cells #[.int .u8 X, .slice ao n cap] 47)).cell? ⟨w.heap.size, 0, none⟩ = some (.int .u8 X) := by simp
  have e0 : (w.alloc (.cells #[.int .u8 X, .slice ao n cap] 47)).cell? ⟨w.heap.size, 1, none⟩ = some (.slice ao n cap) := by simp
  have b0 : Below w.heap.size w (w.alloc (.cells #[.int .u8 X, .slice ao n cap] 47)) := (Below.refl _ _).alloc (Nat.le_refl _) _
  have z0 : w.heap.size < (w.alloc (.cells #[.int .u8 X, .slice ao n cap] 47)).heap.size := by simp
  generalize w.alloc (.cells #[.int .u8 X, .slice ao n cap] 47) = W0 at *
  refine (KN.out W0).mono ?_
  rintro e w1 ⟨rfl, b1⟩
  have c1 := (b1.cell (p := ⟨w.heap.size, 0, none⟩) z0).trans c0
  have e1 := (b1.cell (p := ⟨w.heap.size, 1, none⟩) z0).trans e0
  have B1 : Hid (Below w.heap.size w w1) := b0.trans (b1.mono b0.size)
  have Z1 : Hid (w.heap.size < w1.heap.size) := Nat.lt_of_lt_of_le z0 b1.size
  clear b0 b1 c0 e0 z0 KN
  go_wp2_with fail
  refine (KU.out w1).mono ?_
  rintro e w2 ⟨rfl, b2⟩
  have B2 : Hid (Below w.heap.size w w2) := B1.out.trans (b2.mono B1.out.size)
  have e2 := (b2.cell (p := ⟨w.heap.size, 1, none⟩) Z1.out).trans e1
  clear b2 B1 c1 e1 KU Z1
  go_wp2_with fail
  refine (KQ.out w2 B2.out).mono ?_
  rintro e w3 ⟨rfl, b3⟩
  have B3 : Hid (Below w.heap.size w w3) := B2.out.trans (b3.mono B2.out.size)
  clear b3 B2 KQ e2
  go_wp2_with fail
  go_ret
  exact ⟨rfl, B3.out⟩
theorem line_any (x : Nat) (hx : x < 256) (b : List UInt8) (hb : Hid (b.length ≤ 1048576)) (ao : Option Addr) (n cap : Nat) (w : World) (h : Hid (Sl b (.slice ao n cap) w)) : Calls Tryd.prog 32 #[.agg #[.int .u8 (x : Int), .slice ao n cap]] w fun e w' => e = .returned (.string (sb (ln x b))) ∧ Below w.heap.size w w' := by
  by_cases h0 : nm x = []
  · exact line_none x hx h0 b ao n cap w
  by_cases hp : 0 < psh (x : Int)
  · exact line_push x hx h0 hp b hb ao n cap w h
  · exact line_plain x hx h0 (by omega) b ao n cap w
end Cd
end Go.Proofs.YtddaajdcoifmoaaDoor
/- code: a line at its blank; operations by their names. -/
namespace Go.Proofs.YtddaajdcoifmoaaDoor
namespace Cd
open Go.RowKit Go.Maps
theorem cutB_ix : ∀ l : List UInt8, (Lib.indexByte l 32 = -1 ∧ cutB l = (l, [], false)) ∨ ∃ i : Nat, i < l.length ∧ Lib.indexByte l 32 = (i : Int) ∧ cutB l = (l.take i, l.drop (i + 1), true)
  | [] => .inl ⟨rfl, rfl⟩
  | c :: r => by
    by_cases h : c = 32
    · subst h
      exact .inr ⟨0, by simp, rfl, rfl⟩
    · have hb : (c == 32) = false := by simpa using h
      rcases cutB_ix r with ⟨h1, h2⟩ | ⟨i, h0, h1, h2⟩
      · refine .inl ⟨?_, by rw [cutB, if_neg h, h2]⟩
        rw [Lib.indexByte, hb, h1]
        rfl
      · refine .inr ⟨i + 1, by simp; omega, ?_, by rw [cutB, if_neg h, h2]; rfl⟩
        rw [Lib.indexByte, hb, h1]
        have e : ((i : Int) == -1) = false := by
          rw [beq_eq_false_iff_ne]; omega
        rw [e]
        rfl
theorem ext_tk (l : List UInt8) (i : Nat) : (sb l).extract 0 i = sb (l.take i) := by
  unfold sb
  apply ByteArray.ext
  rw [ByteArray.data_extract]
  simp
theorem ext_dp (l : List UInt8) (i n : Nat) (hn : n = l.length) : (sb l).extract i n = sb (l.drop i) := by
  unfold sb
  apply ByteArray.ext
  rw [ByteArray.data_extract, hn]
  simp
  exact List.take_of_length_le (by simp)
theorem sb_size (l : List UInt8) : (sb l).size = l.length := by simp [sb, ByteArray.size]
set_option maxRecDepth 100000 in
theorem cuts_none (l : List UInt8) (h1 : Lib.indexByte l 32 = -1) (w : World) : Calls Tryd.prog 48 #[.string (sb l), .string ⟨#[32]⟩] w fun e w' => e = .returned (.tuple #[.string (sb l), .string ⟨#[]⟩, .bool false]) ∧ Below w.heap.size w w' := by
  have KI : Hid (∀ W : World, Calls Tryd.prog 60 #[.string (sb l), .string ⟨#[32]⟩] W fun e w' => e = .returned (.int .i64 (-1)) ∧ Below W.heap.size W w') := fun W => (Tryd.stringslite_Index_one (sb l) 32 W).mono fun e w' he => ⟨by rw [he.1]; show Ending.returned (.int .i64 (Lib.indexByte l 32)) = _; rw [h1], by rw [he.2]; exact Below.refl _ _⟩
  clear h1
  generalize sb l = N at *
  go_enter Tryd.func48, Tryd.ntmps48
  go_wp2_with fail
  refine (KI.out w).mono ?_
  rintro e w1 ⟨rfl, b1⟩
  have B1 : Hid _ := b1
  clear b1
  go_wp2_with fail
  go_ret3
  exact ⟨rfl, B1.out⟩
set_option maxRecDepth 100000 in
theorem cuts_at (l : List UInt8) (i : Nat) (h0 : i < l.length) (hz : Hid (l.length ≤ 2097154)) (h1 : Lib.indexByte l 32 = (i : Int)) (w : World) : Calls Tryd.prog 48 #[.string (sb l), .string ⟨#[32]⟩] w fun e w' => e = .returned (.tuple #[.string (sb (l.take i)), .string (sb (l.drop (i + 1))), .bool true]) ∧ Below w.heap.size w w' := by
  have KI : Hid (∀ W : World, Calls Tryd.prog 60 #[.string (sb l), .string ⟨#[32]⟩] W fun e w' => e = .returned (.int .i64 (i : Int)) ∧ Below W.heap.size W w') := fun W => (Tryd.stringslite_Index_one (sb l) 32 W).mono fun e w' he => ⟨by rw [he.1]; show Ending.returned (.int .i64 (Lib.indexByte l 32)) = _; rw [h1], by rw [he.2]; exact Below.refl _ _⟩
  have hsz := sb_size l
  obtain ⟨n, hn⟩ : ∃ n, n = l.length := ⟨_, rfl⟩
  obtain ⟨r, hr⟩ : ∃ r : Nat, r = i + 1 := ⟨_, rfl⟩
  have x1 := ext_tk l i
  have x2 := ext_dp l r n hn
  rw [← hn] at h0 hsz
  rw [← hr]
  have wi : IntKind.i64.wrap ((i : Int) + 1) = (r : Int) := by rw [IntKind.wrap_i64]; have := hz.out; omega
  have i0 : (0 : Int) ≤ (i : Int) := by omega
  have i1 : (i : Int) ≤ (n : Int) := by omega
  have i2 : i ≤ n := by omega
  have i3 : (r : Int) ≤ (n : Int) := by omega
  have i4 : r ≤ n := by omega
  generalize sb (l.take i) = N1 at *
  generalize sb (l.drop r) = N2 at *
  generalize sb l = N at *
  clear hn hr h0 h1 hz
  go_enter Tryd.func48, Tryd.ntmps48
  go_wp2_with fail
  refine (KI.out w).mono ?_
  rintro e w1 ⟨rfl, b1⟩
  have B1 : Hid _ := b1
  clear b1
  go_upto_region 3 with fail
  refine RS.wp_region_one (fun wx => Below w1.heap.size w1 wx) (by kernel_rfl) (by kernel_rfl) ((Below.refl _ _).drew) ?_
  dsimp only [List.toList_toArray]
  refine RS.go1 (v := ?_) (a' := ?_) rfl ?_ ?_ ?_
  rotate_left 2
  · intro K wx hS hK
    go_simp
    exact hK _ hS
  · simp only [Act.put, List.setIfInBounds_toArray, List.set_cons_succ, List.set_cons_zero]
    rfl
  refine RS.go1 (v := ?_) (a' := ?_) rfl ?_ ?_ ?_
  rotate_left 2
  · intro K wx hS hK
    go_simp
    exact hK _ hS
  · simp only [Act.put, List.setIfInBounds_toArray, List.set_cons_succ, List.set_cons_zero]
    rfl
  refine RS.go1 (v := ?_) (a' := ?_) rfl ?_ ?_ ?_
  rotate_left 2
  · intro K wx hS hK
    go_simp
    exact hK _ hS
  · simp only [Act.put, List.setIfInBounds_toArray, List.set_cons_succ, List.set_cons_zero]
    rfl
  refine RS.go1 (v := ?_) (a' := ?_) rfl ?_ ?_ ?_
  rotate_left 2
  · intro K wx hS hK
    go_simp
    exact hK _ hS
  · simp only [Act.put, List.setIfInBounds_toArray, List.set_cons_succ, List.set_cons_zero]
    rfl
  refine RS.go1 (v := ?_) (a' := ?_) rfl ?_ ?_ ?_
  rotate_left 2
  · intro K wx hS hK
    go_simp
    exact hK _ hS
  · simp only [Act.put, List.setIfInBounds_toArray, List.set_cons_succ, List.set_cons_zero]
    rfl
  refine RS.go1 (v := ?_) (a' := ?_) rfl ?_ ?_ ?_
  rotate_left 2
  · intro K wx hS hK
    go_simp
    exact hK _ hS
  · simp only [Act.put, List.setIfInBounds_toArray, List.set_cons_succ, List.set_cons_zero]
    rfl
  refine RS.go1 (v := ?_) (a' := ?_) rfl ?_ ?_ ?_
  rotate_left 2
  · intro K wx hS hK
    go_simp
    exact hK _ hS
  · simp only [Act.put, List.setIfInBounds_toArray, List.set_cons_succ, List.set_cons_zero]
    rfl
  refine RS.go1 (v := ?_) (a' := ?_) rfl ?_ ?_ ?_
  rotate_left 2
  · intro K wx hS hK
    go_simp
    exact hK _ hS
  · simp only [Act.put, List.setIfInBounds_toArray, List.set_cons_succ, List.set_cons_zero]
    rfl
  refine RS.go1 (v := ?_) (a' := ?_) rfl ?_ ?_ ?_
  rotate_left 2
  · intro K wx hS hK
    go_simp
    exact hK _ hS
  · simp only [Act.put, List.setIfInBounds_toArray, List.set_cons_succ, List.set_cons_zero]
    rfl
  refine RS.go1 (v := ?_) (a' := ?_) rfl ?_ ?_ ?_
  rotate_left 2
  · intro K wx hS hK
    go_simp
    exact hK _ hS
  · simp only [Act.put, List.setIfInBounds_toArray, List.set_cons_succ, List.set_cons_zero]
    rfl
  refine RS.go1 (v := ?_) (a' := ?_) rfl ?_ ?_ ?_
  rotate_left 2
  · intro K wx hS hK
    go_simp
    exact hK _ hS
  · simp only [Act.put, List.setIfInBounds_toArray, List.set_cons_succ, List.set_cons_zero]
    rfl
  refine RS.go1 (v := ?_) (a' := ?_) rfl ?_ ?_ ?_
  rotate_left 2
  · intro K wx hS hK
    go_simp
    exact hK _ hS
  · simp only [Act.put, List.setIfInBounds_toArray, List.set_cons_succ, List.set_cons_zero]
    rfl
  refine RS.go_end ?_
  intro w9 h9
  have H9 : Hid (Below w.heap.size w w9) := B1.out.trans (h9.mono B1.out.size)
  clear h9
  go_wp2_with fail
  go_ret3
  exact ⟨rfl, H9.out⟩
theorem cut_any (l : List UInt8) (hz : Hid (l.length ≤ 2097154)) (w : World) : Calls Tryd.prog 40 #[.string (sb l), .string ⟨#[32]⟩] w fun e w' => e = .returned (.tuple #[.string (sb (cutB l).1), .string (sb (cutB l).2.1), .bool (cutB l).2.2]) ∧ Below w.heap.size w w' := by
  have K : Hid (Calls Tryd.prog 48 #[.string (sb l), .string ⟨#[32]⟩] w fun e w' => e = .returned (.tuple #[.string (sb (cutB l).1), .string (sb (cutB l).2.1), .bool (cutB l).2.2]) ∧ Below w.heap.size w w') := by
    rcases cutB_ix l with ⟨h1, h2⟩ | ⟨i, h0, h1, h2⟩
    · rw [h2]; exact cuts_none l h1 w
    · rw [h2]; exact cuts_at l i h0 hz h1 w
  generalize sb (cutB l).1 = N1 at *
  generalize sb (cutB l).2.1 = N2 at *
  generalize (cutB l).2.2 = t at *
  generalize sb l = N at *
  go_enter Tryd.func40, Tryd.ntmps40
  go_wp2_with fail
  refine K.out.mono ?_
  rintro e w1 ⟨rfl, b1⟩
  have B1 : Hid _ := b1
  clear b1
  go_wp2_with fail
  go_ret3
  exact ⟨rfl, B1.out⟩
/-- The operations by their names, as a map reads. -/
def Db : Nat → DataW Unit
  | 0 => .map []
  | k + 1 => if nm k = [] then Db k else (Db k).put (.string (nm k)) (.lit (.int .u8 (k : Int)))
theorem Db_map : ∀ k, IsMap (Db k)
  | 0 => isMap_empty
  | k + 1 => by
    rw [Db]
    split
    · exact Db_map k
    · exact (Db_map k).put _ _
theorem nm_one {x y : Nat} (hx : x < 256) (hy : y < 256) (h : nm x ≠ []) (e : nm x = nm y) : x = y := by
  have a := inv_nm x hx h
  rw [e, inv_nm y hy (by rw [← e]; exact h)] at a
  exact (Option.some.inj a).symm
theorem KL (l : List UInt8) : WideAt.IsKeyLit (.string l) := trivial
theorem Db_not (l : List UInt8) : ∀ k, (∀ x, x < k → nm x = l → nm x = []) → Maps.has (Db k) (.string l) = false
  | 0, _ => rfl
  | k + 1, h => by
    rw [Db]
    split
    · exact Db_not l k (fun x hx => h x (by omega))
    · rename_i hn
      rw [Maps.has_put_other (by intro e; injection e with e; exact hn (h k (by omega) e.symm))]
      exact Db_not l k (fun x hx => h x (by omega))
theorem Db_at (x : Nat) (hx : x < 256) (hn : nm x ≠ []) : ∀ k, k ≤ 256 → x < k → Maps.has (Db k) (.string (nm x)) = true ∧ ∀ z, (Db k).atKey (.string (nm x)) z = .lit (.int .u8 (x : Int))
  | 0, _, h => absurd h (Nat.not_lt_zero _)
  | k + 1, hk, h => by
    rw [Db]
    by_cases e : x = k
    · subst e
      rw [if_neg hn]
      exact ⟨Maps.has_put_same (Db_map x) (KL _) _, fun z => Maps.atKey_put_same (Db_map x) (KL _) _ z⟩
    · obtain ⟨h1, h2⟩ := Db_at x hx hn k (by omega) (by omega)
      split
      · exact ⟨h1, h2⟩
      · have hne : (Lit.string (nm x)) ≠ Lit.string (nm k) := by
          intro q
          injection q with q
          exact e (nm_one hx (by omega) hn q)
        exact ⟨by rw [Maps.has_put_other hne]; exact h1, fun z => by rw [Maps.atKey_put_other hne]; exact h2 z⟩
/-- A map that has the operations by their names. -/
def Om (b : Nat) (w : World) : Prop := w.ownsMap Tryd.prog 9 (plainElem (H := Unit) Tryd.prog 5) b 256 (Db 256)
theorem Om_below {b : Nat} {w w' : World} (h : Om b w) (hb : Below w.heap.size w w') : Om b w' := h.kept (⟨hb.os, hb.tape, hb.output, hb.size, fun j hj _ => hb.block j hj⟩ : w.grownBy w' none) (by simp)
theorem lawS : Keyed Tryd.prog 9 := string_keyed Tryd.underlying9
theorem zeroU8 (w : World) : (zeroValue 5).run Tryd.prog w = .ok (.int .u8 0) w := by kernel_rfl
theorem u8wf (k : Nat) (h : k < 256) : (Lit.int .u8 (k : Int)).wf = true := by
  exact WalkArith.wf_u8 (by omega)
set_option maxHeartbeats 1000000 in
set_option maxRecDepth 100000 in
theorem ops_any (w : World) : Calls Tryd.prog 27 #[] w fun e w' => ∃ b, e = .returned (.map (some b)) ∧ Om b w' ∧ Below w.heap.size w w' := by
  have hmm := @run_makeMap Tryd.prog
  go_enter Tryd.func27, Tryd.ntmps27
  go_wp2_with fail
  go_loopw [5] (fun p wr => ∃ k : Nat, k ≤ 256 ∧ p = .int .i64 (k : Int) ∧ wr.ownsMap Tryd.prog 9 (plainElem (H := Unit) Tryd.prog 5) w.heap.size k (Db k) ∧ Below w.heap.size w wr) (fun p _ => ((256 : Int) - intOf p).toNat)
  case atStart => exact ⟨0, Nat.zero_le _, rfl, World.ownsMap_made _ _ _ _, (Below.refl _ _).alloc (Nat.le_refl _) _⟩
  case round =>
    obtain ⟨k, hk, rfl, hown, hb⟩ := hrel
    by_cases hlt : k < 256
    · have d1 : (k : Int) < 256 := by omega
      have u1 : IntKind.u8.wrap (k : Int) = (k : Int) := by show (k : Int) % 256 = _; omega
      have hw : Hid (wrap64 ((k : Int) + 1) = ((k + 1 : Nat) : Int)) := by show _ = _; unfold wrap64; omega
      have KN : Hid (Calls Tryd.prog 8 #[.int .u8 (k : Int)] wr fun e w' => e = .returned (.string (sb (nm k))) ∧ Below wr.heap.size wr w') := name_any k hlt wr
      have HO : Hid (wr.ownsMap Tryd.prog 9 (plainElem (H := Unit) Tryd.prog 5) w.heap.size k (Db k)) := hown
      have HB : Hid (Below w.heap.size w wr) := hb
      clear hown hb
      go_wp2_with fail
      refine KN.out.mono ?_
      rintro e w2 ⟨rfl, b2⟩
      have o2 : w2.ownsMap Tryd.prog 9 (plainElem (H := Unit) Tryd.prog 5) w.heap.size k (Db k) := World.ownsMap.kept HO.out (⟨b2.os, b2.tape, b2.output, b2.size, fun j hj _ => b2.block j hj⟩ : wr.grownBy w2 none) (by simp)
      have B2 : Hid (Below w.heap.size w w2) := HB.out.trans (b2.mono HB.out.size)
      clear b2 HO HB KN
      by_cases hn : nm k = []
      · have e0 : (sb (nm k)).toList.isEmpty = true := by rw [hn, sb_list]; rfl
        have O2 : Hid (w2.ownsMap Tryd.prog 9 (plainElem (H := Unit) Tryd.prog 5) w.heap.size (k + 1) (Db (k + 1))) := by
          show World.ownsMap _ _ _ _ _ _ _
          rw [Db, if_pos hn]
          exact o2.mono (Nat.le_succ _)
        clear o2 hn
        generalize sb (nm k) = N at *
        have hw := hw.out
        go_wp2_with fail
        go_roundw
        case rel => exact ⟨k + 1, hlt, rfl, O2.out, B2.out⟩
        case measure =>
          show ((256 : Int) - ((k + 1 : Nat) : Int)).toNat < ((256 : Int) - (k : Int)).toNat
          omega
      · have e0 := sb_ne hn
        have hkey : keyOf Tryd.prog 9 (.string (sb (nm k))) = some (.string (nm k)) := Go.WideMaps.keyOf_string_mk Tryd.underlying9 (by rw [sb_size]; have := nm_len k; unfold maxLen; omega)
        have HD : Hid ((Db k).put (.string (nm k)) (.lit (.int .u8 (k : Int))) = Db (k + 1)) := by
          show _ = _
          rw [Db, if_neg hn]
        clear hn
        generalize sb (nm k) = N at *
        have hw := hw.out
        go_wp2_with (at_mapUpdate; refine wpList_mapUpdate_own _ rfl _ _ _ 44 rfl 9 5 lawS Tryd.underlying44 _ w.heap.size k _ rfl o2 (by unfold maxLen; omega) _ _ _ rfl rfl hkey _ [] (plainElem_int Tryd.underlying5 (u8wf k hlt)) ?_; intro w3 o3 g3)
        have O3 : Hid (w3.ownsMap Tryd.prog 9 (plainElem (H := Unit) Tryd.prog 5) w.heap.size (k + 1) (Db (k + 1))) := by
          rw [← HD.out]; exact o3
        have B3 : Hid (Below w.heap.size w w3) := B2.out.grown g3 B2.out.size (fun j hj => by cases hj; exact Nat.le_refl _)
        clear o3 g3 o2 HD B2
        go_wp2_with fail
        go_roundw
        case rel => exact ⟨k + 1, hlt, rfl, O3.out, B3.out⟩
        case measure =>
          show ((256 : Int) - ((k + 1 : Nat) : Int)).toNat < ((256 : Int) - (k : Int)).toNat
          omega
    · obtain rfl : k = 256 := by omega
      have O2 : Hid (Om w.heap.size wr) := hown
      have HB : Hid (Below w.heap.size w wr) := hb
      clear hown hb
      go_wp2_with fail
      go_ret
      exact ⟨_, rfl, O2.out, HB.out⟩
end Cd
end Go.Proofs.YtddaajdcoifmoaaDoor
/- code: what a line is read as. -/
namespace Go.Proofs.YtddaajdcoifmoaaDoor
namespace Cd
open Go.RowKit Go.Maps
def nml (l : List UInt8) : Option (Nat × List UInt8) := match prs l with
  | some [b] => if nm b.toNat = [] then some (b.toNat, []) else none
  | _ => none
def psl (x : Nat) (l : List UInt8) : Option (Nat × List UInt8) := match prs l with
  | some b => if psh (x : Int) = 0 ∨ psh (x : Int) < b.length then none else some (x, b)
  | none => none
theorem rdl_eq (l : List UInt8) : rdl l = match inv (cutB l).1 with
  | none => nml l
  | some x => if (cutB l).2.2 then psl x (cutB l).2.1 else if psh (x : Int) = 0 then some (x, []) else none := by
  unfold rdl nml psl
  cases inv (cutB l).1 with
  | none => rfl
  | some x => rfl
theorem sl_nil (w : World) : Sl [] (.slice none 0 0) w := ⟨none, 0, rfl, Nat.le_refl _, Sp.Vw_nil _ _⟩
/-- A slice of bytes of a call's own. -/
def Sn (B : Nat) (b : List UInt8) (ao : Option Addr) (cap : Nat) (w : World) : Prop := Sl b (.slice ao b.length cap) w ∧ ∀ a, ao = some a → B ≤ a.block
theorem Sn_below {B : Nat} {b : List UInt8} {ao : Option Addr} {cap : Nat} {w w' : World} (h : Sn B b ao cap w) (hb : Below w.heap.size w w') : Sn B b ao cap w' := ⟨Sl_below h.1 hb, h.2⟩
theorem Sn_set {B : Nat} {b : List UInt8} {ao : Option Addr} {cap : Nat} {w : World} {g i : Nat} {u : Value} (h : Sn B b ao cap w) (hg : g < B) : Sn B b ao cap (w.setCell ⟨g, i, none⟩ u) := by
  refine ⟨?_, h.2⟩
  obtain ⟨a1, c1, e1, h1, h2⟩ := h.1
  injection e1 with e1 e2 e3
  subst e1 e3
  refine ⟨ao, cap, rfl, h1, fun h0 => ?_⟩
  obtain ⟨k, off, rfl, hk, hc⟩ := h2 h0
  have hB := h.2 _ rfl
  refine ⟨k, off, rfl, by simpa using hk, fun j hj => ?_⟩
  rw [World.cell?_setCell_other _ _ _ _ (by intro e; injection e with e; have : B ≤ k := hB; omega)]
  exact hc j hj
theorem Sn_nil (B : Nat) (w : World) : Sn B [] none 0 w := ⟨sl_nil w, fun _ h => by cases h⟩
theorem Sn_mono {B C : Nat} {b : List UInt8} {ao : Option Addr} {cap : Nat} {w : World} (h : Sn B b ao cap w) (hc : C ≤ B) : Sn C b ao cap w := ⟨h.1, fun a ha => Nat.le_trans hc (h.2 a ha)⟩
/-- What a reader of lines answers. -/
def RL (r : Option (Nat × List UInt8)) (w : World) (e : Ending) (w' : World) : Prop := ∃ (y : Int) (ao : Option Addr) (n cap : Nat), e = .returned (.tuple #[.agg #[.int .u8 y, .slice ao n cap], .bool r.isSome]) ∧ (∀ x b, r = some (x, b) → y = (x : Int) ∧ n = b.length ∧ Sn w.heap.size b ao cap w') ∧ Below w.heap.size w w'
/-- What hex.Parse answers. -/
def KPS (l : List UInt8) : Prop := ∀ W : World, Calls Tryd.prog 49 #[.string (sb l)] W fun e w' => ∃ (ao : Option Addr) (cap : Nat) (b : List UInt8) (c : Int), e = .returned (.tuple #[.slice ao b.length cap, .int .i64 c]) ∧ Sn W.heap.size b ao cap w' ∧ ((prs l = some b ∧ c = 0) ∨ (prs l = none ∧ c = 1 ∧ b = [])) ∧ Below W.heap.size W w'
theorem kps (l : List UInt8) (hn : Hid (l.length ≤ 2097154)) : KPS l := fun W => by
  by_cases hb : l.length < 2 ∨ l.take 2 ≠ [48, 120] ∨ l.length % 2 = 1
  · refine (parse_form l hb W).mono fun e w' he => ⟨none, 0, [], 1, he.1, Sn_nil _ _, .inr ⟨?_, rfl, rfl⟩, by rw [he.2]; exact Below.refl _ _⟩
    unfold prs
    rw [if_neg]
    intro h
    have h2 : 2 ≤ l.length := by have := congrArg List.length h.1; simp at this; omega
    rcases hb with h1 | h1 | h1
    · omega
    · exact h1 h.1
    · have := h.2.1; omega
  · have hp : l.take 2 = [48, 120] := by
      by_cases h : l.take 2 = [48, 120]
      · exact h
      · exact absurd (.inr (.inl h)) hb
    obtain ⟨m, hm⟩ : ∃ m, l.length = 2 + 2 * m := ⟨(l.length - 2) / 2, by omega⟩
    have em : (l.length - 2) / 2 = m := by omega
    refine (parse_any2 l m hm hp hn W).mono fun e w' he => ?_
    obtain ⟨⟨hG, v, rfl, ho⟩ | ⟨hG, rfl⟩, hbel⟩ := he
    · have hP : prs l = some (bl l m) := by
        unfold prs
        rw [if_pos (show Ps l from ⟨hp, by omega, by rw [em]; exact hG⟩), em]
      have hs := Sl_row ho hG
      have hs2 := hs
      obtain ⟨ao, cap, rfl, _, _⟩ := hs2
      refine ⟨ao, cap, _, 0, rfl, ⟨hs, fun a ha => ?_⟩, .inl ⟨hP, rfl⟩, hbel⟩
      subst ha
      rcases ho.2 with ⟨h3, _⟩ | ⟨g, cap', cur, h3, _⟩
      · cases h3
      · injection h3 with e1 e2 e3
        injection e1 with e1
        subst e1
        exact (Sp.own_lo ho g rfl).1
    · have hP : prs l = none := by
        unfold prs
        rw [if_neg (fun h : Ps l => hG (by have := h.2.2; rwa [em] at this))]
      exact ⟨none, 0, [], 1, rfl, Sn_nil _ _, .inr ⟨hP, rfl, rfl⟩, hbel⟩
/-- The variable of a reader's answer. -/
structure Bx (B g : Nat) (w : World) : Prop where
  lo : B ≤ g
  hi : g < w.heap.size
  c0 : ∃ v, w.cell? ⟨g, 0, none⟩ = some v
  c1 : ∃ v, w.cell? ⟨g, 1, none⟩ = some v
  f0 : w.frozen? ⟨g, 0, none⟩ = false
  f1 : w.frozen? ⟨g, 1, none⟩ = false
theorem Bx_below {B g : Nat} {w w' : World} (h : Bx B g w) (hb : Below w.heap.size w w') : Bx B g w' :=
  ⟨h.lo, Nat.lt_of_lt_of_le h.hi hb.size, by obtain ⟨v, e⟩ := h.c0; exact ⟨v, (hb.cell (p := ⟨g, 0, none⟩) h.hi).trans e⟩, by obtain ⟨v, e⟩ := h.c1; exact ⟨v, (hb.cell (p := ⟨g, 1, none⟩) h.hi).trans e⟩, (hb.frozen (p := ⟨g, 0, none⟩) h.hi).trans h.f0, (hb.frozen (p := ⟨g, 1, none⟩) h.hi).trans h.f1⟩
theorem Bx_new (w : World) : Bx w.heap.size w.heap.size (w.alloc (.cells #[.int .u8 0, .slice none 0 0] 47)) :=
  ⟨Nat.le_refl _, by simp, ⟨.int .u8 0, by simp⟩, ⟨.slice none 0 0, by simp⟩, by simp [go_sem], by simp [go_sem]⟩
theorem set2_below {w w1 : World} {g : Nat} {u v : Value} (h : Below w.heap.size w w1) (hg : w.heap.size ≤ g) : Below w.heap.size w ((w1.setCell ⟨g, 0, none⟩ u).setCell ⟨g, 1, none⟩ v) := (h.setCell hg _).setCell hg _
theorem get0 {W : World} {g : Nat} {a b v : Value} (h : W.cell? ⟨g, 0, none⟩ = some v) : ((W.setCell ⟨g, 0, none⟩ a).setCell ⟨g, 1, none⟩ b).cell? ⟨g, 0, none⟩ = some a := by
  rw [World.cell?_setCell_other _ _ _ _ (by simp)]
  exact World.cell?_setCell_same _ _ _ h
theorem get1 {W : World} {g : Nat} {a b v : Value} (h : W.cell? ⟨g, 1, none⟩ = some v) : ((W.setCell ⟨g, 0, none⟩ a).setCell ⟨g, 1, none⟩ b).cell? ⟨g, 1, none⟩ = some b := by
  refine World.cell?_setCell_same (u := v) _ _ _ ?_
  rw [World.cell?_setCell_other _ _ _ _ (by simp)]
  exact h
theorem resO (f : Func) (tm : Array Value) (W : World) (g s z : Nat) (p q v : Value) (hf : f.results = #[.cell s 47, .tmp z]) (h : tm.getD s undef = .pointer (some ⟨g, 0, none⟩)) (h2 : tm.getD z undef = v) (c0 : W.cell? ⟨g, 0, none⟩ = some p) (c1 : W.cell? ⟨g, 1, none⟩ = some q) : (results f tm).run Tryd.prog W = .ok (.tuple #[.agg #[p, q], v]) W := by
  simp at h h2
  simp [results, hf, go_sem, h, h2, c0, c1]
set_option maxHeartbeats 1000000 in
set_option maxRecDepth 100000 in
theorem nameless_any (l : List UInt8) (hn : Hid (l.length ≤ 2097154)) (w : World) : Calls Tryd.prog 41 #[.string (sb l)] w (RL (nml l) w) := by
  have K : Hid (KPS l) := kps l hn
  obtain ⟨R, hR⟩ : ∃ R, Hid (R = nml l) := ⟨_, rfl⟩
  rw [← hR.out]
  clear hn
  go_enter Tryd.func41, Tryd.ntmps41
  go_wp2_with fail
  have b0 : Below w.heap.size w (w.alloc (.cells #[.int .u8 0, .slice none 0 0] 47)) := (Below.refl _ _).alloc (Nat.le_refl _) _
  have x0 := Bx_new w
  obtain ⟨g, hg⟩ : ∃ g, g = w.heap.size := ⟨_, rfl⟩
  rw [← hg] at x0
  generalize w.alloc (.cells #[.int .u8 0, .slice none 0 0] 47) = W0 at *
  rw [← hg]
  have HG : Hid (g = w.heap.size) := hg
  clear hg
  refine (K.out W0).mono ?_
  rintro e w1 ⟨ao, cap, b, c, rfl, hs, hc, b1⟩
  have X1 : Hid _ := Bx_below x0 b1
  have B1 : Hid (Below w.heap.size w w1) := b0.trans (b1.mono b0.size)
  rcases hc with ⟨hp, rfl⟩ | ⟨hp, rfl, rfl⟩
  · by_cases h1 : b.length = 1
    · obtain ⟨y, rfl⟩ : ∃ y, b = [y] := by
        match b, h1 with
        | [y], _ => exact ⟨y, rfl⟩
      obtain ⟨a2, cp2, ev, hcp, hvw⟩ := hs.1
      injection ev with ev1 ev2 ev3
      subst ev1 ev3
      obtain ⟨k, off, rfl, hk, hcy⟩ := hvw (by simp)
      have cy := hcy 0 (by simp)
      rw [Nat.add_zero] at cy
      have ey : Sp.bz [y] 0 = ((y.toNat : Nat) : Int) := rfl
      rw [ey] at cy
      have hy := y.toNat_lt
      have KN : Hid (∀ W : World, Calls Tryd.prog 8 #[.int .u8 (y.toNat : Int)] W fun e w' => e = .returned (.string (sb (nm y.toNat))) ∧ Below W.heap.size W w') := fun W => name_any _ hy W
      by_cases hn : nm y.toNat = []
      · have e1 : Hid (R = some (y.toNat, [])) := by show _ = _; rw [hR.out]; unfold nml; rw [hp]; dsimp only; rw [if_pos hn]
        have e0 : (sb (nm y.toNat)).toList.isEmpty = true := by rw [hn, sb_list]; rfl
        clear K hs hp x0 b0 hR ev2 hvw hcy ey hy hn h1
        generalize sb (nm y.toNat) = N at *
        generalize y.toNat = z at *
        go_wp2_with fail
        refine (KN.out w1).mono ?_
        rintro e w2 ⟨rfl, b2⟩
        have X2 : Hid _ := Bx_below X1.out b2
        have B2 : Hid (Below w.heap.size w w2) := B1.out.trans (b2.mono B1.out.size)
        have cy2 := (b2.cell (p := ⟨k, off, none⟩) hk).trans cy
        clear b1 b2 X1 B1 KN cy
        obtain ⟨v0, c0⟩ := X2.out.c0
        obtain ⟨v1, c1⟩ := X2.out.c1
        have f0 := X2.out.f0
        have f1 := X2.out.f1
        go_wp2_with fail
        try simp only [Exit.inBlock, Exit.then]
        refine bodyPost_ret (resO _ _ _ g 2 3 _ _ _ rfl rfl rfl (get0 c0) (get1 c1)) rfl ?_
        rw [e1.out]
        exact ⟨_, none, 0, 0, rfl, fun x b h => by
          injection h with h
          injection h with q1 q2
          subst q1 q2
          exact ⟨rfl, rfl, Sn_nil _ _⟩, set2_below B2.out (Nat.le_of_eq HG.out.symm)⟩
      · have e1 : Hid (R = none) := by show _ = _; rw [hR.out]; unfold nml; rw [hp]; dsimp only; rw [if_neg hn]
        have e0 := sb_ne hn
        clear K hs hp x0 b0 hR ev2 hvw hcy ey hy hn h1
        generalize sb (nm y.toNat) = N at *
        generalize y.toNat = z at *
        go_wp2_with fail
        refine (KN.out w1).mono ?_
        rintro e w2 ⟨rfl, b2⟩
        have X2 : Hid _ := Bx_below X1.out b2
        have B2 : Hid (Below w.heap.size w w2) := B1.out.trans (b2.mono B1.out.size)
        clear b1 b2 X1 B1 KN cy
        obtain ⟨v0, c0⟩ := X2.out.c0
        obtain ⟨v1, c1⟩ := X2.out.c1
        have f0 := X2.out.f0
        have f1 := X2.out.f1
        go_wp2_with fail
        try simp only [Exit.inBlock, Exit.then]
        refine bodyPost_ret (resO _ _ _ g 2 3 _ _ _ rfl rfl rfl (get0 c0) (get1 c1)) rfl ?_
        rw [e1.out]
        exact ⟨_, _, _, _, rfl, fun x b h => (by cases h), set2_below B2.out (Nat.le_of_eq HG.out.symm)⟩
    · have e1 : Hid (R = none) := by
        show _ = _
        rw [hR.out]
        unfold nml
        rw [hp]
        match b, h1 with
        | [], _ => rfl
        | [y], h1 => exact absurd rfl h1
        | _ :: _ :: _, _ => rfl
      have d1 : ¬ (b.length : Int) = 1 := by omega
      clear K hs hp x0 b1 b0 hR
      generalize b.length = m at *
      obtain ⟨v0, c0⟩ := X1.out.c0
      obtain ⟨v1, c1⟩ := X1.out.c1
      have f0 := X1.out.f0
      have f1 := X1.out.f1
      go_wp2_with fail
      try simp only [Exit.inBlock, Exit.then]
      refine bodyPost_ret (resO _ _ _ g 2 3 _ _ _ rfl rfl rfl (get0 c0) (get1 c1)) rfl ?_
      rw [e1.out]
      exact ⟨_, _, _, _, rfl, fun x b h => (by cases h), set2_below B1.out (Nat.le_of_eq HG.out.symm)⟩
  · have e1 : Hid (R = none) := by show _ = _; rw [hR.out]; unfold nml; rw [hp]
    clear K hs hp x0 b1 b0 hR
    obtain ⟨v0, c0⟩ := X1.out.c0
    obtain ⟨v1, c1⟩ := X1.out.c1
    have f0 := X1.out.f0
    have f1 := X1.out.f1
    go_wp2_with fail
    try simp only [Exit.inBlock, Exit.then]
    refine bodyPost_ret (resO _ _ _ g 2 3 _ _ _ rfl rfl rfl (get0 c0) (get1 c1)) rfl ?_
    rw [e1.out]
    exact ⟨_, _, _, _, rfl, fun x b h => (by cases h), set2_below B1.out (Nat.le_of_eq HG.out.symm)⟩
set_option maxHeartbeats 1000000 in
set_option maxRecDepth 100000 in
theorem push_any (x : Nat) (hx : x < 256) (l : List UInt8) (hn : Hid (l.length ≤ 2097154)) (w : World) : Calls Tryd.prog 42 #[.int .u8 (x : Int), .string (sb l)] w (RL (psl x l) w) := by
  have K : Hid (KPS l) := kps l hn
  have KU : Hid (∀ W : World, Calls Tryd.prog 36 #[.int .u8 (x : Int)] W fun e w' => e = .returned (.int .i64 (psh (x : Int) : Int)) ∧ Below W.heap.size W w') := fun W => pushed_any _ (by omega) (by omega) W
  obtain ⟨R, hR⟩ : ∃ R, Hid (R = psl x l) := ⟨_, rfl⟩
  rw [← hR.out]
  obtain ⟨P, hP⟩ : ∃ P, Hid (P = psh (x : Int)) := ⟨_, rfl⟩
  rw [← hP.out] at KU
  clear hn hx
  go_enter Tryd.func42, Tryd.ntmps42
  go_wp2_with fail
  have b0 : Below w.heap.size w (w.alloc (.cells #[.int .u8 0, .slice none 0 0] 47)) := (Below.refl _ _).alloc (Nat.le_refl _) _
  have x0 := Bx_new w
  obtain ⟨g, hg⟩ : ∃ g, g = w.heap.size := ⟨_, rfl⟩
  rw [← hg] at x0
  generalize w.alloc (.cells #[.int .u8 0, .slice none 0 0] 47) = W0 at *
  rw [← hg]
  have HG : Hid (g = w.heap.size) := hg
  clear hg
  refine (K.out W0).mono ?_
  rintro e w1 ⟨ao, cap, b, c, rfl, hs, hc, b1⟩
  have X1 : Hid _ := Bx_below x0 b1
  have B1 : Hid (Below w.heap.size w w1) := b0.trans (b1.mono b0.size)
  rcases hc with ⟨hp, rfl⟩ | ⟨hp, rfl, rfl⟩
  · by_cases h0 : P = 0
    · have e1 : Hid (R = none) := by show _ = _; rw [hR.out]; unfold psl; rw [hp]; dsimp only; rw [if_pos (.inl (by rw [← hP.out]; exact h0))]
      subst h0
      clear K hs hp x0 b0 b1 hR hP
      generalize b.length = m at *
      go_wp2_with fail
      refine (KU.out w1).mono ?_
      rintro e w2 ⟨rfl, b2⟩
      have X2 : Hid _ := Bx_below X1.out b2
      have B2 : Hid (Below w.heap.size w w2) := B1.out.trans (b2.mono B1.out.size)
      clear b2 X1 B1 KU
      obtain ⟨v0, c0⟩ := X2.out.c0
      obtain ⟨v1, c1⟩ := X2.out.c1
      have f0 := X2.out.f0
      have f1 := X2.out.f1
      go_wp2_with fail
      try simp only [Exit.inBlock, Exit.then]
      refine bodyPost_ret (resO _ _ _ g 4 5 _ _ _ rfl rfl rfl (get0 c0) (get1 c1)) rfl ?_
      rw [e1.out]
      exact ⟨_, _, _, _, rfl, fun x b h => (by cases h), set2_below B2.out (Nat.le_of_eq HG.out.symm)⟩
    have d0 : ¬ (P : Int) = 0 := by omega
    by_cases h1 : P < b.length
    · have e1 : Hid (R = none) := by show _ = _; rw [hR.out]; unfold psl; rw [hp]; dsimp only; rw [if_pos (.inr (by rw [← hP.out]; exact h1))]
      have d1 : (P : Int) < (b.length : Int) := by omega
      clear K hs hp x0 b0 b1 hR hP h0
      generalize b.length = m at *
      go_wp2_with fail
      refine (KU.out w1).mono ?_
      rintro e w2 ⟨rfl, b2⟩
      have X2 : Hid _ := Bx_below X1.out b2
      have B2 : Hid (Below w.heap.size w w2) := B1.out.trans (b2.mono B1.out.size)
      clear b2 X1 B1
      go_wp2_with fail
      refine (KU.out w2).mono ?_
      rintro e w3 ⟨rfl, b2⟩
      have X3 : Hid _ := Bx_below X2.out b2
      have B3 : Hid (Below w.heap.size w w3) := B2.out.trans (b2.mono B2.out.size)
      clear b2 X2 B2 KU
      obtain ⟨v0, c0⟩ := X3.out.c0
      obtain ⟨v1, c1⟩ := X3.out.c1
      have f0 := X3.out.f0
      have f1 := X3.out.f1
      go_wp2_with fail
      try simp only [Exit.inBlock, Exit.then]
      refine bodyPost_ret (resO _ _ _ g 4 5 _ _ _ rfl rfl rfl (get0 c0) (get1 c1)) rfl ?_
      rw [e1.out]
      exact ⟨_, _, _, _, rfl, fun x b h => (by cases h), set2_below B3.out (Nat.le_of_eq HG.out.symm)⟩
    · have e1 : Hid (R = some (x, b)) := by show _ = _; rw [hR.out]; unfold psl; rw [hp]; dsimp only; rw [if_neg (by rw [← hP.out]; omega)]
      have d1 : ¬ (P : Int) < (b.length : Int) := by omega
      have HL : Hid (g < W0.heap.size ∧ w.heap.size ≤ W0.heap.size) := ⟨x0.hi, b0.size⟩
      have S1 : Hid _ := hs
      obtain ⟨m, HM⟩ : ∃ m, Hid (m = b.length) := ⟨_, rfl⟩
      have q0 : ((P : Int) == 0) = false := by rw [beq_eq_false_iff_ne]; omega
      have q1 : decide (P < m) = false := decide_eq_false (by rw [HM.out]; exact h1)
      rw [← HM.out] at d1 ⊢
      clear K hs hp x0 b0 b1 hR hP h0 h1
      go_wp2_with fail
      refine (KU.out w1).mono ?_
      rintro e w2 ⟨rfl, b2⟩
      have X2 : Hid _ := Bx_below X1.out b2
      have B2 : Hid (Below w.heap.size w w2) := B1.out.trans (b2.mono B1.out.size)
      have S2 : Hid _ := Sn_below S1.out b2
      clear b2 X1 B1 S1
      go_wp2_with fail
      refine (KU.out w2).mono ?_
      rintro e w3 ⟨rfl, b2⟩
      have X3 : Hid _ := Bx_below X2.out b2
      have B3 : Hid (Below w.heap.size w w3) := B2.out.trans (b2.mono B2.out.size)
      have S3 : Hid _ := Sn_below S2.out b2
      clear b2 X2 B2 KU S2
      obtain ⟨v0, c0⟩ := X3.out.c0
      obtain ⟨v1, c1⟩ := X3.out.c1
      have f0 := X3.out.f0
      have f1 := X3.out.f1
      go_wp2_with fail
      try simp only [Exit.inBlock, Exit.then]
      refine bodyPost_ret (resO _ _ _ g 4 5 _ _ _ rfl rfl rfl (get0 c0) (get1 c1)) rfl ?_
      rw [e1.out]
      exact ⟨_, _, _, _, rfl, fun x b h => by
        injection h with h
        injection h with q1 q2
        subst q1 q2
        exact ⟨rfl, HM.out, Sn_mono (Sn_set (Sn_set S3.out HL.out.1) HL.out.1) HL.out.2⟩, set2_below B3.out (Nat.le_of_eq HG.out.symm)⟩
  · have e1 : Hid (R = none) := by show _ = _; rw [hR.out]; unfold psl; rw [hp]
    clear K hs hp x0 b1 b0 hR hP KU
    obtain ⟨v0, c0⟩ := X1.out.c0
    obtain ⟨v1, c1⟩ := X1.out.c1
    have f0 := X1.out.f0
    have f1 := X1.out.f1
    go_wp2_with fail
    try simp only [Exit.inBlock, Exit.then]
    refine bodyPost_ret (resO _ _ _ g 4 5 _ _ _ rfl rfl rfl (get0 c0) (get1 c1)) rfl ?_
    rw [e1.out]
    exact ⟨_, _, _, _, rfl, fun x b h => (by cases h), set2_below B1.out (Nat.le_of_eq HG.out.symm)⟩
end Cd
end Go.Proofs.YtddaajdcoifmoaaDoor
/- code.readLine. -/
namespace Go.Proofs.YtddaajdcoifmoaaDoor
namespace Cd
open Go.RowKit Go.Maps
theorem cutB_le : ∀ l : List UInt8, (cutB l).1.length ≤ l.length ∧ (cutB l).2.1.length ≤ l.length
  | [] => ⟨Nat.le_refl _, Nat.le_refl _⟩
  | c :: r => by
    have ih := cutB_le r
    rw [cutB]
    split
    · exact ⟨Nat.zero_le _, by simp⟩
    · exact ⟨by simp; omega, by simp; omega⟩
theorem has_no {l : List UInt8} (h : inv l = none) : Maps.has (Db 256) (.string l) = false := Db_not l 256 (fun x hx e => Classical.byContradiction fun hn => by
  have := inv_nm x hx hn
  rw [e, h] at this
  cases this)
theorem has_yes {l : List UInt8} {x : Nat} (h : inv l = some x) : Maps.has (Db 256) (.string l) = true ∧ ∀ z, (Db 256).atKey (.string l) z = .lit (.int .u8 (x : Int)) := by
  obtain ⟨h1, h2, h3⟩ := inv_some h
  rw [← h1]
  exact Db_at x h2 (by rw [h1]; exact h3) 256 (Nat.le_refl _) h2
set_option maxHeartbeats 1000000 in
set_option maxRecDepth 100000 in
theorem rd_none (l : List UInt8) (hn : Hid (l.length ≤ 2097154)) (hi : inv (cutB l).1 = none) (b : Nat) (w : World) (HM : Hid (Om b w)) : Calls Tryd.prog 28 #[.string (sb l), .map (some b)] w (RL (rdl l) w) := by
  have KC : Hid (∀ W : World, Calls Tryd.prog 40 #[.string (sb l), .string ⟨#[32]⟩] W fun e w' => e = .returned (.tuple #[.string (sb (cutB l).1), .string (sb (cutB l).2.1), .bool (cutB l).2.2]) ∧ Below W.heap.size W w') := fun W => cut_any l hn W
  have hle := cutB_le l
  have hkey : keyOf Tryd.prog 9 (.string (sb (cutB l).1)) = some (.string (cutB l).1) := Go.WideMaps.keyOf_string_mk Tryd.underlying9 (by rw [sb_size]; have := hn.out; unfold maxLen; omega)
  have hh := has_no hi
  have KN : Hid (∀ W : World, Calls Tryd.prog 41 #[.string (sb l)] W (RL (nml l) W)) := fun W => nameless_any l hn W
  rw [rdl_eq, hi]
  dsimp only
  generalize nml l = R at *
  generalize (cutB l).1 = n1 at *
  generalize sb n1 = N1 at *
  generalize sb (cutB l).2.1 = N2 at *
  generalize (cutB l).2.2 = t at *
  generalize sb l = N at *
  clear hi hle hn
  go_enter Tryd.func28, Tryd.ntmps28
  go_wp2_with fail
  have b0 : Below w.heap.size w (w.alloc (.cells #[.int .u8 0, .slice none 0 0] 47)) := (Below.refl _ _).alloc (Nat.le_refl _) _
  have x0 := Bx_new w
  obtain ⟨g, hg⟩ : ∃ g, g = w.heap.size := ⟨_, rfl⟩
  rw [← hg] at x0
  have o0 := Om_below HM.out b0
  generalize w.alloc (.cells #[.int .u8 0, .slice none 0 0] 47) = W0 at *
  rw [← hg]
  have HG : Hid (g = w.heap.size) := hg
  clear hg
  refine (KC.out W0).mono ?_
  rintro e w1 ⟨rfl, b1⟩
  have X1 : Hid _ := Bx_below x0 b1
  have B1 : Hid (Below w.heap.size w w1) := b0.trans (b1.mono b0.size)
  have o1 : w1.ownsMap Tryd.prog 9 (plainElem (H := Unit) Tryd.prog 5) b 256 (Db 256) := Om_below o0 b1
  clear x0 o0 b0 b1 KC
  go_wp2_with (at_lookup; refine wpList_lookup_own_ok_int _ rfl _ _ 44 rfl 9 5 .u8 lawS Tryd.underlying44 Tryd.underlying5 (zeroU8 _) b 256 _ rfl o1 _ _ rfl hkey ?_; intro c hat hwc)
  clear hat hwc o1
  refine (KN.out w1).mono ?_
  rintro e w2 ⟨y, ao, n, cap, rfl, hr, b2⟩
  have X2 : Hid _ := Bx_below X1.out b2
  have B2 : Hid (Below w.heap.size w w2) := B1.out.trans (b2.mono B1.out.size)
  have HL : Hid (g < w1.heap.size ∧ w.heap.size ≤ w1.heap.size) := ⟨X1.out.hi, B1.out.size⟩
  have HR : Hid (∀ x b, R = some (x, b) → y = (x : Int) ∧ n = b.length ∧ Sn w1.heap.size b ao cap w2) := hr
  clear b2 X1 B1 hr KN
  obtain ⟨v0, c0⟩ := X2.out.c0
  obtain ⟨v1, c1⟩ := X2.out.c1
  have f0 := X2.out.f0
  have f1 := X2.out.f1
  go_wp2_with fail
  try simp only [Exit.inBlock, Exit.then]
  refine bodyPost_ret (resO _ _ _ g 4 5 _ _ _ rfl rfl rfl (get0 c0) (get1 c1)) rfl ?_
  exact ⟨_, _, _, _, rfl, fun x b h => by
    obtain ⟨q1, q2, q3⟩ := HR.out x b h
    exact ⟨q1, q2, Sn_mono (Sn_set (Sn_set q3 HL.out.1) HL.out.1) HL.out.2⟩, set2_below B2.out (Nat.le_of_eq HG.out.symm)⟩
set_option maxHeartbeats 1000000 in
set_option maxRecDepth 100000 in
theorem rd_push (l : List UInt8) (hn : Hid (l.length ≤ 2097154)) (x : Nat) (hi : inv (cutB l).1 = some x) (ht : (cutB l).2.2 = true) (b : Nat) (w : World) (HM : Hid (Om b w)) : Calls Tryd.prog 28 #[.string (sb l), .map (some b)] w (RL (rdl l) w) := by
  have KC : Hid (∀ W : World, Calls Tryd.prog 40 #[.string (sb l), .string ⟨#[32]⟩] W fun e w' => e = .returned (.tuple #[.string (sb (cutB l).1), .string (sb (cutB l).2.1), .bool (cutB l).2.2]) ∧ Below W.heap.size W w') := fun W => cut_any l hn W
  have hle := cutB_le l
  have hkey : keyOf Tryd.prog 9 (.string (sb (cutB l).1)) = some (.string (cutB l).1) := Go.WideMaps.keyOf_string_mk Tryd.underlying9 (by rw [sb_size]; have := hn.out; unfold maxLen; omega)
  obtain ⟨hh, ha⟩ := has_yes hi
  have hx := (inv_some hi).2.1
  have KN : Hid (∀ W : World, Calls Tryd.prog 42 #[.int .u8 (x : Int), .string (sb (cutB l).2.1)] W (RL (psl x (cutB l).2.1) W)) := fun W => push_any x hx _ (by show _ ≤ _; have := hn.out; omega) W
  rw [rdl_eq, hi]
  dsimp only
  rw [ht] at KC ⊢
  rw [if_pos rfl]
  generalize psl x (cutB l).2.1 = R at *
  generalize (cutB l).1 = n1 at *
  generalize sb n1 = N1 at *
  generalize sb (cutB l).2.1 = N2 at *
  generalize sb l = N at *
  clear hi hle hn hx
  go_enter Tryd.func28, Tryd.ntmps28
  go_wp2_with fail
  have b0 : Below w.heap.size w (w.alloc (.cells #[.int .u8 0, .slice none 0 0] 47)) := (Below.refl _ _).alloc (Nat.le_refl _) _
  have x0 := Bx_new w
  obtain ⟨g, hg⟩ : ∃ g, g = w.heap.size := ⟨_, rfl⟩
  rw [← hg] at x0
  have o0 := Om_below HM.out b0
  generalize w.alloc (.cells #[.int .u8 0, .slice none 0 0] 47) = W0 at *
  rw [← hg]
  have HG : Hid (g = w.heap.size) := hg
  clear hg
  refine (KC.out W0).mono ?_
  rintro e w1 ⟨rfl, b1⟩
  have X1 : Hid _ := Bx_below x0 b1
  have B1 : Hid (Below w.heap.size w w1) := b0.trans (b1.mono b0.size)
  have o1 : w1.ownsMap Tryd.prog 9 (plainElem (H := Unit) Tryd.prog 5) b 256 (Db 256) := Om_below o0 b1
  clear x0 o0 b0 b1 KC
  go_wp2_with (at_lookup; refine wpList_lookup_own_ok_int _ rfl _ _ 44 rfl 9 5 .u8 lawS Tryd.underlying44 Tryd.underlying5 (zeroU8 _) b 256 _ rfl o1 _ _ rfl hkey ?_; intro c hat hwc)
  obtain rfl : c = (x : Int) := by
    rw [ha] at hat
    injection hat with hat
    injection hat with _ hat
    exact hat.symm
  clear hat hwc o1
  refine (KN.out w1).mono ?_
  rintro e w2 ⟨y, ao, n, cap, rfl, hr, b2⟩
  have X2 : Hid _ := Bx_below X1.out b2
  have B2 : Hid (Below w.heap.size w w2) := B1.out.trans (b2.mono B1.out.size)
  have HL : Hid (g < w1.heap.size ∧ w.heap.size ≤ w1.heap.size) := ⟨X1.out.hi, B1.out.size⟩
  have HR : Hid (∀ x b, R = some (x, b) → y = (x : Int) ∧ n = b.length ∧ Sn w1.heap.size b ao cap w2) := hr
  clear b2 X1 B1 hr KN ha
  obtain ⟨v0, c0⟩ := X2.out.c0
  obtain ⟨v1, c1⟩ := X2.out.c1
  have f0 := X2.out.f0
  have f1 := X2.out.f1
  go_wp2_with fail
  try simp only [Exit.inBlock, Exit.then]
  refine bodyPost_ret (resO _ _ _ g 4 5 _ _ _ rfl rfl rfl (get0 c0) (get1 c1)) rfl ?_
  exact ⟨_, _, _, _, rfl, fun x b h => by
    obtain ⟨q1, q2, q3⟩ := HR.out x b h
    exact ⟨q1, q2, Sn_mono (Sn_set (Sn_set q3 HL.out.1) HL.out.1) HL.out.2⟩, set2_below B2.out (Nat.le_of_eq HG.out.symm)⟩
set_option maxHeartbeats 1000000 in
set_option maxRecDepth 100000 in
theorem bare_0 (l : List UInt8) (hn : Hid (l.length ≤ 2097154)) (x : Nat) (hi : inv (cutB l).1 = some x) (ht : (cutB l).2.2 = false) (hp : psh (x : Int) = 0) (b : Nat) (w : World) (HM : Hid (Om b w)) : Calls Tryd.prog 28 #[.string (sb l), .map (some b)] w (RL (rdl l) w) := by
  have KC : Hid (∀ W : World, Calls Tryd.prog 40 #[.string (sb l), .string ⟨#[32]⟩] W fun e w' => e = .returned (.tuple #[.string (sb (cutB l).1), .string (sb (cutB l).2.1), .bool (cutB l).2.2]) ∧ Below W.heap.size W w') := fun W => cut_any l hn W
  have hle := cutB_le l
  have hkey : keyOf Tryd.prog 9 (.string (sb (cutB l).1)) = some (.string (cutB l).1) := Go.WideMaps.keyOf_string_mk Tryd.underlying9 (by rw [sb_size]; have := hn.out; unfold maxLen; omega)
  obtain ⟨hh, ha⟩ := has_yes hi
  have hx := (inv_some hi).2.1
  have KU : Hid (∀ W : World, Calls Tryd.prog 36 #[.int .u8 (x : Int)] W fun e w' => e = .returned (.int .i64 (psh (x : Int) : Int)) ∧ Below W.heap.size W w') := fun W => pushed_any _ (by omega) (by omega) W
  rw [rdl_eq, hi]
  dsimp only
  rw [ht] at KC ⊢
  rw [if_neg (by decide)]
  rw [if_pos hp]
  rw [hp] at KU
  generalize (cutB l).1 = n1 at *
  generalize sb n1 = N1 at *
  generalize sb (cutB l).2.1 = N2 at *
  generalize sb l = N at *
  clear hi hle hn hx
  go_enter Tryd.func28, Tryd.ntmps28
  go_wp2_with fail
  have b0 : Below w.heap.size w (w.alloc (.cells #[.int .u8 0, .slice none 0 0] 47)) := (Below.refl _ _).alloc (Nat.le_refl _) _
  have x0 := Bx_new w
  obtain ⟨g, hg⟩ : ∃ g, g = w.heap.size := ⟨_, rfl⟩
  rw [← hg] at x0
  have o0 := Om_below HM.out b0
  generalize w.alloc (.cells #[.int .u8 0, .slice none 0 0] 47) = W0 at *
  rw [← hg]
  have HG : Hid (g = w.heap.size) := hg
  clear hg
  refine (KC.out W0).mono ?_
  rintro e w1 ⟨rfl, b1⟩
  have X1 : Hid _ := Bx_below x0 b1
  have B1 : Hid (Below w.heap.size w w1) := b0.trans (b1.mono b0.size)
  have o1 : w1.ownsMap Tryd.prog 9 (plainElem (H := Unit) Tryd.prog 5) b 256 (Db 256) := Om_below o0 b1
  clear x0 o0 b0 b1 KC
  go_wp2_with (at_lookup; refine wpList_lookup_own_ok_int _ rfl _ _ 44 rfl 9 5 .u8 lawS Tryd.underlying44 Tryd.underlying5 (zeroU8 _) b 256 _ rfl o1 _ _ rfl hkey ?_; intro c hat hwc)
  obtain rfl : c = (x : Int) := by
    rw [ha] at hat
    injection hat with hat
    injection hat with _ hat
    exact hat.symm
  clear hat hwc o1
  refine (KU.out w1).mono ?_
  rintro e w2 ⟨rfl, b2⟩
  have X2 : Hid _ := Bx_below X1.out b2
  have B2 : Hid (Below w.heap.size w w2) := B1.out.trans (b2.mono B1.out.size)
  clear b2 X1 B1 ha
  obtain ⟨v0, c0⟩ := X2.out.c0
  obtain ⟨v1, c1⟩ := X2.out.c1
  have f0 := X2.out.f0
  have f1 := X2.out.f1
  go_wp2_with fail
  try simp only [Exit.inBlock, Exit.then]
  refine bodyPost_ret (resO _ _ _ g 4 5 _ _ _ rfl rfl rfl (get0 c0) (get1 c1)) rfl ?_
  exact ⟨(x : Int), none, 0, 0, rfl, fun x' b' h => by
    injection h with h
    injection h with q1 q2
    subst q1 q2
    exact ⟨rfl, rfl, Sn_nil _ _⟩, set2_below B2.out (Nat.le_of_eq HG.out.symm)⟩
set_option maxHeartbeats 1000000 in
set_option maxRecDepth 100000 in
theorem bare_p (l : List UInt8) (hn : Hid (l.length ≤ 2097154)) (x : Nat) (hi : inv (cutB l).1 = some x) (ht : (cutB l).2.2 = false) (hp : ¬ psh (x : Int) = 0) (b : Nat) (w : World) (HM : Hid (Om b w)) : Calls Tryd.prog 28 #[.string (sb l), .map (some b)] w (RL (rdl l) w) := by
  have KC : Hid (∀ W : World, Calls Tryd.prog 40 #[.string (sb l), .string ⟨#[32]⟩] W fun e w' => e = .returned (.tuple #[.string (sb (cutB l).1), .string (sb (cutB l).2.1), .bool (cutB l).2.2]) ∧ Below W.heap.size W w') := fun W => cut_any l hn W
  have hle := cutB_le l
  have hkey : keyOf Tryd.prog 9 (.string (sb (cutB l).1)) = some (.string (cutB l).1) := Go.WideMaps.keyOf_string_mk Tryd.underlying9 (by rw [sb_size]; have := hn.out; unfold maxLen; omega)
  obtain ⟨hh, ha⟩ := has_yes hi
  have hx := (inv_some hi).2.1
  have KU : Hid (∀ W : World, Calls Tryd.prog 36 #[.int .u8 (x : Int)] W fun e w' => e = .returned (.int .i64 (psh (x : Int) : Int)) ∧ Below W.heap.size W w') := fun W => pushed_any _ (by omega) (by omega) W
  rw [rdl_eq, hi]
  dsimp only
  rw [ht] at KC ⊢
  rw [if_neg (by decide)]
  rw [if_neg hp]
  obtain ⟨P, hP⟩ : ∃ P, P = psh (x : Int) := ⟨_, rfl⟩
  rw [← hP] at KU hp
  have q0 : ((P : Int) == 0) = false := by rw [beq_eq_false_iff_ne]; omega
  have q1 : ¬ (P : Int) = 0 := by omega
  clear hP
  generalize (cutB l).1 = n1 at *
  generalize sb n1 = N1 at *
  generalize sb (cutB l).2.1 = N2 at *
  generalize sb l = N at *
  clear hi hle hn hx
  go_enter Tryd.func28, Tryd.ntmps28
  go_wp2_with fail
  have b0 : Below w.heap.size w (w.alloc (.cells #[.int .u8 0, .slice none 0 0] 47)) := (Below.refl _ _).alloc (Nat.le_refl _) _
  have x0 := Bx_new w
  obtain ⟨g, hg⟩ : ∃ g, g = w.heap.size := ⟨_, rfl⟩
  rw [← hg] at x0
  have o0 := Om_below HM.out b0
  generalize w.alloc (.cells #[.int .u8 0, .slice none 0 0] 47) = W0 at *
  rw [← hg]
  have HG : Hid (g = w.heap.size) := hg
  clear hg
  refine (KC.out W0).mono ?_
  rintro e w1 ⟨rfl, b1⟩
  have X1 : Hid _ := Bx_below x0 b1
  have B1 : Hid (Below w.heap.size w w1) := b0.trans (b1.mono b0.size)
  have o1 : w1.ownsMap Tryd.prog 9 (plainElem (H := Unit) Tryd.prog 5) b 256 (Db 256) := Om_below o0 b1
  clear x0 o0 b0 b1 KC
  go_wp2_with (at_lookup; refine wpList_lookup_own_ok_int _ rfl _ _ 44 rfl 9 5 .u8 lawS Tryd.underlying44 Tryd.underlying5 (zeroU8 _) b 256 _ rfl o1 _ _ rfl hkey ?_; intro c hat hwc)
  obtain rfl : c = (x : Int) := by
    rw [ha] at hat
    injection hat with hat
    injection hat with _ hat
    exact hat.symm
  clear hat hwc o1
  refine (KU.out w1).mono ?_
  rintro e w2 ⟨rfl, b2⟩
  have X2 : Hid _ := Bx_below X1.out b2
  have B2 : Hid (Below w.heap.size w w2) := B1.out.trans (b2.mono B1.out.size)
  clear b2 X1 B1 ha
  obtain ⟨v0, c0⟩ := X2.out.c0
  obtain ⟨v1, c1⟩ := X2.out.c1
  have f0 := X2.out.f0
  have f1 := X2.out.f1
  go_wp2_with fail
  try simp only [Exit.inBlock, Exit.then]
  refine bodyPost_ret (resO _ _ _ g 4 5 _ _ _ rfl rfl rfl (get0 c0) (get1 c1)) rfl ?_
  exact ⟨(x : Int), none, 0, 0, by simp, fun x' b' h => (by cases h), set2_below B2.out (Nat.le_of_eq HG.out.symm)⟩
theorem line_read (l : List UInt8) (hn : Hid (l.length ≤ 2097154)) (b : Nat) (w : World) (HM : Hid (Om b w)) : Calls Tryd.prog 28 #[.string (sb l), .map (some b)] w (RL (rdl l) w) := by
  cases hi : inv (cutB l).1 with
  | none => exact rd_none l hn hi b w HM
  | some x =>
    cases ht : (cutB l).2.2 with
    | true => exact rd_push l hn x hi ht b w HM
    | false =>
      by_cases hp : psh (x : Int) = 0
      · exact bare_0 l hn x hi ht hp b w HM
      · exact bare_p l hn x hi ht hp b w HM
end Cd
end Go.Proofs.YtddaajdcoifmoaaDoor
/- The same, where those of class 1 may look at others of class 1 that they are bound to. A region that draws its order: some values stand fast whatever the order (class 0), some hang on when they come (class 1: new blocks), and the rest come behind all these, one behind the other (class 2). -/
namespace Go.Proofs.YtddaajdcoifmoaaDoor
namespace RH
open RI RS RN Go.RowKit
variable {P : Program} {ops : Array Oper} {Q : Exit → Act → World → Prop}
def cls (ks : List Nat) (j : Nat) : Nat := ks.getD j 2
def updU (U : Nat → Value) (i : Nat) (v : Value) : Nat → Value := fun j => if j = i then v else U j
/-- A step of class 0. -/
def DStep (P : Program) (ops : Array Oper) (I : (Nat → Bool) → (Nat → Value) → World → Prop) (i : Nat) (o : Oper) (v : Value) (U : Nat → Value) (a : Act) : Prop :=
  (Region.wanted o (yielded ops a.tmps) = true ∧ ∀ (K : Value → World → Prop) d w, I d U w → may ops d i → (∀ w', I (don d i) U w' → K v w') → upv P K ((execOp a.eval o).run P w)) ∨
  (Region.wanted o (yielded ops a.tmps) = false ∧ v = undef ∧ ∀ d w, I d U w → may ops d i → I (don d i) U w)
/-- A step of class 1. -/
def NStep (P : Program) (ops : Array Oper) (I : (Nat → Bool) → (Nat → Value) → World → Prop) (j : Nat) (o : Oper) (U : Nat → Value) (a : Act) : Prop :=
  ∀ (K : Value → World → Prop) d w, I d U w → may ops d j → (∀ v w', I (don d j) (updU U j v) w' → K v w') → upv P K ((execOp a.eval o).run P w)
/-- The walk in the text's order: class 0 by its value, class 1 by its fact. -/
def Walk (P : Program) (ops : Array Oper) (I : (Nat → Bool) → (Nat → Value) → World → Prop) (E : ((Nat → Value) → Act) → Prop) : Nat → List Oper → List Nat → ((Nat → Value) → Act) → Prop
  | j, o :: r, k :: ks, f =>
    if k = 0 then ∃ v, (∀ U, DStep P ops I j o v U (f U)) ∧ Walk P ops I E (j + 1) r ks (fun U => (f U).put o.dst v)
    else if k = 1 then o.guard = none ∧ (∀ U, NStep P ops I j o U (f U)) ∧ Walk P ops I E (j + 1) r ks (fun U => (f U).put o.dst (U j))
    else Walk P ops I E (j + 1) r ks f
  | _, _, _, f => E f
def tl : List Oper → List Nat → List Oper
  | o :: r, k :: ks => if k = 2 then o :: tl r ks else tl r ks
  | _, _ => []
/-- What each operation is bound to, through others too, as bits. -/
def mask1 (ms : List Nat) (o : Oper) : Nat := o.after.toList.foldl (fun m e => if Region.binds .any e then m ||| (1 <<< e.on) ||| ms.getD e.on 0 else m) 0
def masks (ops : Array Oper) : Nat → List Nat
  | 0 => []
  | k + 1 => masks ops k ++ [((ops[k]?).map (mask1 (masks ops k))).getD 0]
def pairC (ops : Array Oper) (ks : List Nat) (i j : Nat) : Bool :=
  match ops[i]?, ops[j]? with
  | some x, some y =>
    match y.dst with
    | none => true
    | some t =>
      if cls ks i = 2 then true
      else if cls ks j = 2 then true
      else (x.dst != some t || i == j) && (if cls ks j = 1 ∧ cls ks i = 0 then !(x.looksAt ops).contains t else (!(x.looksAt ops).contains t || (decide (j < i) && bindsOn x j) || (decide (i < j) && bindsOn y i)))
  | _, _ => true
def okC (ops : Array Oper) (ks : List Nat) : Bool :=
  RI.early ops && decide (ks.length = ops.size) && (List.range ops.size).all fun i =>
    (((ops[i]?).map fun o => !isSel o.op).getD true && decide (cls ks i ≤ 2)) && (List.range ops.size).all (fun j => pairC ops ks i j) &&
    (if cls ks i = 2 then (List.range ops.size).all fun j => (decide (cls ks j = 2) && decide (i ≤ j)) || ((masks ops ops.size).getD i 0).testBit j else true)
theorem masks_len (ops : Array Oper) : ∀ k, (masks ops k).length = k
  | 0 => rfl
  | k + 1 => by rw [masks, List.length_append, masks_len ops k]; rfl
theorem masks_get (ops : Array Oper) : ∀ n k, k < n → (masks ops n).getD k 0 = ((ops[k]?).map (mask1 (masks ops k))).getD 0
  | 0, k, h => absurd h (by omega)
  | n + 1, k, h => by
    rw [masks]
    by_cases e : k = n
    · subst e
      rw [List.getD_eq_getElem?_getD, List.getElem?_append_right (by rw [masks_len]; omega), masks_len]
      simp
    · rw [List.getD_eq_getElem?_getD, List.getElem?_append_left (by rw [masks_len]; omega), ← List.getD_eq_getElem?_getD]
      exact masks_get ops n k (by omega)
def Closed (ops : Array Oper) (d : Nat → Bool) : Prop := ∀ (j : Nat) (o : Oper), ops[j]? = some o → d j = true → ∀ e, e ∈ o.after → Region.binds .any e = true → d e.on = true
theorem mask1_bit (ms : List Nat) (o : Oper) (i : Nat) (h : (mask1 ms o).testBit i = true) : ∃ e, e ∈ o.after ∧ Region.binds .any e = true ∧ (e.on = i ∨ (ms.getD e.on 0).testBit i = true) := by
  unfold mask1 at h
  have key : ∀ (l : List Edge) (m : Nat), (l.foldl (fun m e => if Region.binds .any e then m ||| (1 <<< e.on) ||| ms.getD e.on 0 else m) m).testBit i = true → m.testBit i = true ∨ ∃ e, e ∈ l ∧ Region.binds .any e = true ∧ (e.on = i ∨ (ms.getD e.on 0).testBit i = true) := by
    intro l
    induction l with
    | nil => intro m h; exact .inl h
    | cons e r ih =>
      intro m h
      rw [List.foldl_cons] at h
      rcases ih _ h with h1 | ⟨e', h1, h2⟩
      · by_cases hb : Region.binds .any e = true
        · rw [if_pos hb, Nat.testBit_or, Nat.testBit_or, Bool.or_eq_true, Bool.or_eq_true] at h1
          rcases h1 with (h1 | h1) | h1
          · exact .inl h1
          · refine .inr ⟨e, List.mem_cons_self .., hb, .inl ?_⟩
            rw [Nat.one_shiftLeft, Nat.testBit_two_pow] at h1
            simpa using h1
          · exact .inr ⟨e, List.mem_cons_self .., hb, .inr h1⟩
        · rw [if_neg hb] at h1; exact .inl h1
      · exact .inr ⟨e', List.mem_cons_of_mem _ h1, h2⟩
  rcases key _ 0 h with h1 | ⟨e, h1, h2⟩
  · rw [Nat.zero_testBit] at h1; cases h1
  · exact ⟨e, by simpa using h1, h2⟩
theorem mask_done (he : RI.early ops = true) (d : Nat → Bool) (hcl : Closed ops d) : ∀ (n j : Nat), j < n → n ≤ ops.size → (∀ o, ops[j]? = some o → ∀ e, e ∈ o.after → Region.binds .any e = true → d e.on = true) → ∀ i, (((ops[j]?).map (mask1 (masks ops j))).getD 0).testBit i = true → d i = true
  | 0, j, h, _, _, _, _ => absurd h (by omega)
  | n + 1, j, hj, hn, hd, i, h => by
    have hjs : j < ops.size := by omega
    rw [Array.getElem?_eq_getElem hjs] at h
    simp only [Option.map_some, Option.getD_some] at h
    obtain ⟨e, h1, h2, h3⟩ := mask1_bit _ _ _ h
    have h4 := hd _ (Array.getElem?_eq_getElem hjs) e h1 h2
    rcases h3 with rfl | h3
    · exact h4
    · have hlt : e.on < j := by
        have h5 := List.all_eq_true.1 he j (List.mem_range.2 hjs)
        rw [Array.getElem?_eq_getElem hjs] at h5
        simp only [Option.map_some, Option.getD_some, Array.all_eq_true_iff_forall_mem] at h5
        have := h5 e h1
        rw [h2] at this
        simpa using this
      rw [masks_get ops j e.on hlt] at h3
      exact mask_done he d hcl n e.on (by omega) (by omega) (fun o ho => hcl e.on o ho h4) i h3
theorem fr_get2 (V : Nat → Value) (a : Act) (d c : Nat → Bool) (i t : Nat) : ∀ k, (∀ j, j < k → (ops[j]?).bind (·.dst) = some t → (j < i ∧ d j = true ∧ c j = true) ∨ (d j = false ∧ (c j = false ∨ i ≤ j))) → (fr ops V d a k).tmps[t]? = (fr ops V c a (min k i)).tmps[t]?
  | 0, _ => by simp [fr]
  | k + 1, h => by
    have ih := fr_get2 V a d c i t k (fun j hj => h j (by omega))
    have hk := h k (by omega)
    by_cases hi : k < i
    · rw [show min (k + 1) i = k + 1 by omega, fr, fr]
      rw [show min k i = k by omega] at ih
      by_cases e : (ops[k]?).bind (·.dst) = some t
      · rcases hk e with ⟨_, h2, h3⟩ | ⟨h1, h2 | h2⟩
        · rw [h2, h3]; simp only [if_true]; rw [put_get, put_get]; simp only [get_size ih, ih]
        · rw [h1, h2]; exact ih
        · omega
      · have q : ∀ (x : Act) (b : Bool), (if b then x.put ((ops[k]?).bind (·.dst)) (V k) else x).tmps[t]? = x.tmps[t]? := by
          intro x b; cases b
          · rfl
          · simp only [if_true]; rw [put_get, if_neg e]
        rw [q, q, ih]
    · rw [show min (k + 1) i = i by omega, fr]
      rw [show min k i = i by omega] at ih
      by_cases e : (ops[k]?).bind (·.dst) = some t
      · rcases hk e with ⟨h1, _⟩ | ⟨h2, _⟩
        · omega
        · rw [h2]; exact ih
      · cases d k
        · exact ih
        · simp only [if_true]; rw [put_get, if_neg e]; exact ih
theorem fr_put2 (V : Nat → Value) (a : Act) (d : Nat → Bool) (i : Nat) (hd : d i = false) : ∀ k, (∀ j, j < k → d j = true → ∀ t, (ops[i]?).bind (·.dst) = some t → (ops[j]?).bind (·.dst) ≠ some t) →
    fr ops V (don d i) a k = if i < k then (fr ops V d a k).put ((ops[i]?).bind (·.dst)) (V i) else fr ops V d a k
  | 0, _ => by simp [fr]
  | k + 1, h => by
    have ih := fr_put2 V a d i hd k (fun j hj => h j (by omega))
    rw [fr, fr]
    by_cases e : k = i
    · subst e
      rw [don_same, hd, ih, if_neg (show ¬ k < k by omega), if_pos (show k < k + 1 by omega)]
      simp
    · rw [don_other _ _ _ e, ih]
      by_cases h1 : i < k
      · rw [if_pos h1, if_pos (show i < k + 1 by omega)]
        cases hk : d k with
        | false => simp
        | true =>
          simp only [if_true]
          exact Act.put_comm _ _ _ (fun t ht => h k (by omega) hk t ht)
      · rw [if_neg h1, if_neg (show ¬ i < k + 1 by omega)]
def isDN (ks : List Nat) (j : Nat) : Bool := cls ks j == 0 || cls ks j == 1
/-- The value of each that is not of class 2. -/
def VU (ks : List Nat) (V U : Nat → Value) (j : Nat) : Value := if cls ks j = 1 then U j else V j
theorem walk_vals {I : (Nat → Bool) → (Nat → Value) → World → Prop} {E : ((Nat → Value) → Act) → Prop} (ks : List Nat) (a : Act) : ∀ (l : List Oper) (k : List Nat) (m : Nat) (V : Nat → Value), l.length = k.length → (∀ j o, l[j]? = some o → ops[m + j]? = some o) → (∀ j c, k[j]? = some c → cls ks (m + j) = c) → (∀ j, j < k.length → cls ks (m + j) ≤ 2) → Walk P ops I E m l k (fun U => fr ops (VU ks V U) (isDN ks) a m) →
    ∃ V', (∀ j, j < m → V' j = V j) ∧ (∀ j o U, l[j]? = some o → cls ks (m + j) = 0 → DStep P ops I (m + j) o (V' (m + j)) U (fr ops (VU ks V' U) (isDN ks) a (m + j))) ∧ (∀ j o U, l[j]? = some o → cls ks (m + j) = 1 → o.guard = none ∧ NStep P ops I (m + j) o U (fr ops (VU ks V' U) (isDN ks) a (m + j))) ∧ E (fun U => fr ops (VU ks V' U) (isDN ks) a (m + l.length))
  | [], k, m, V, _, _, _, _, h => ⟨V, fun _ _ => rfl, fun j o _ hj => by simp at hj, fun j o _ hj => by simp at hj, by cases k <;> simpa [Walk] using h⟩
  | o :: r, [], m, V, hl, _, _, _, h => absurd hl (by simp)
  | o :: r, c :: k, m, V, hlen, hl, hc, h3, h => by
    have hkm : ops[m]? = some o := by simpa using hl 0 o rfl
    have hcm : cls ks m = c := by simpa using hc 0 c rfl
    have frV : ∀ (V1 V2 U : Nat → Value) (n : Nat), (∀ j, j < n → V1 j = V2 j) → fr ops (VU ks V1 U) (isDN ks) a n = fr ops (VU ks V2 U) (isDN ks) a n := fun V1 V2 U n hv => fr_V a (isDN ks) _ _ n (fun j hj _ => by unfold VU; rw [hv j hj])
    have hl' : ∀ j o', r[j]? = some o' → ops[m + 1 + j]? = some o' := fun j o' hj => by have := hl (j + 1) o' (by simpa using hj); rwa [show m + (j + 1) = m + 1 + j by omega] at this
    have hc' : ∀ j c', k[j]? = some c' → cls ks (m + 1 + j) = c' := fun j c' hj => by have := hc (j + 1) c' (by simpa using hj); rwa [show m + (j + 1) = m + 1 + j by omega] at this
    have h3' : ∀ j, j < k.length → cls ks (m + 1 + j) ≤ 2 := fun j hj => by have := h3 (j + 1) (by simpa using hj); rwa [show m + (j + 1) = m + 1 + j by omega] at this
    unfold Walk at h
    by_cases h0 : c = 0
    · rw [if_pos h0] at h
      obtain ⟨v, h1, h2⟩ := h
      let W : Nat → Value := fun j => if j = m then v else V j
      have hW : (fun U => fr ops (VU ks W U) (isDN ks) a (m + 1)) = fun U => (fr ops (VU ks V U) (isDN ks) a m).put o.dst v := by
        funext U
        rw [fr, frV W V U m (fun j hj => by simp only [W]; rw [if_neg (by omega)])]
        simp [isDN, hcm, h0, hkm, W, VU]
      rw [← hW] at h2
      obtain ⟨V', e1, e2, e3, e4⟩ := walk_vals ks a r k (m + 1) W (by simpa using hlen) hl' hc' h3' h2
      have eV : ∀ U, fr ops (VU ks V' U) (isDN ks) a m = fr ops (VU ks V U) (isDN ks) a m := fun U => frV V' V U m (fun j hj => by rw [e1 j (by omega)]; simp only [W]; rw [if_neg (by omega)])
      refine ⟨V', fun j hj => ?_, fun j o' U hj hcj => ?_, fun j o' U hj hcj => ?_, ?_⟩
      · rw [e1 j (by omega)]; simp only [W]; rw [if_neg (by omega)]
      · cases j with
        | zero =>
          have : o' = o := by simpa using hj.symm
          subst this
          rw [Nat.add_zero, e1 m (by omega), eV]
          simpa [W] using h1 U
        | succ j => rw [show m + (j + 1) = m + 1 + j by omega] at hcj ⊢; exact e2 j o' U (by simpa using hj) hcj
      · cases j with
        | zero => rw [Nat.add_zero, hcm, h0] at hcj; exact absurd hcj (by decide)
        | succ j => rw [show m + (j + 1) = m + 1 + j by omega] at hcj ⊢; exact e3 j o' U (by simpa using hj) hcj
      · rw [show m + (o :: r).length = m + 1 + r.length by simp; omega]; exact e4
    · rw [if_neg h0] at h
      by_cases h1 : c = 1
      · rw [if_pos h1] at h
        obtain ⟨hg, hn, h2⟩ := h
        have hW : (fun U => fr ops (VU ks V U) (isDN ks) a (m + 1)) = fun U => (fr ops (VU ks V U) (isDN ks) a m).put o.dst (U m) := by
          funext U
          rw [fr]
          simp [isDN, hcm, h1, hkm, VU]
        rw [← hW] at h2
        obtain ⟨V', e1, e2, e3, e4⟩ := walk_vals ks a r k (m + 1) V (by simpa using hlen) hl' hc' h3' h2
        have eV : ∀ U, fr ops (VU ks V' U) (isDN ks) a m = fr ops (VU ks V U) (isDN ks) a m := fun U => frV V' V U m (fun j hj => e1 j (by omega))
        refine ⟨V', fun j hj => e1 j (by omega), fun j o' U hj hcj => ?_, fun j o' U hj hcj => ?_, ?_⟩
        · cases j with
          | zero => rw [Nat.add_zero, hcm] at hcj; exact absurd hcj h0
          | succ j => rw [show m + (j + 1) = m + 1 + j by omega] at hcj ⊢; exact e2 j o' U (by simpa using hj) hcj
        · cases j with
          | zero =>
            have : o' = o := by simpa using hj.symm
            subst this
            rw [Nat.add_zero, eV]
            exact ⟨hg, hn U⟩
          | succ j => rw [show m + (j + 1) = m + 1 + j by omega] at hcj ⊢; exact e3 j o' U (by simpa using hj) hcj
        · rw [show m + (o :: r).length = m + 1 + r.length by simp; omega]; exact e4
      · rw [if_neg h1] at h
        have hskip : (fun U => fr ops (VU ks V U) (isDN ks) a (m + 1)) = fun U => fr ops (VU ks V U) (isDN ks) a m := by
          funext U
          rw [fr]; simp [isDN, hcm, h0, h1]
        rw [← hskip] at h
        obtain ⟨V', e1, e2, e3, e4⟩ := walk_vals ks a r k (m + 1) V (by simpa using hlen) hl' hc' h3' h
        refine ⟨V', fun j hj => e1 j (by omega), fun j o' U hj hcj => ?_, fun j o' U hj hcj => ?_, ?_⟩
        · cases j with
          | zero => rw [Nat.add_zero, hcm] at hcj; exact absurd hcj h0
          | succ j => rw [show m + (j + 1) = m + 1 + j by omega] at hcj ⊢; exact e2 j o' U (by simpa using hj) hcj
        · cases j with
          | zero => rw [Nat.add_zero, hcm] at hcj; exact absurd hcj h1
          | succ j => rw [show m + (j + 1) = m + 1 + j by omega] at hcj ⊢; exact e3 j o' U (by simpa using hj) hcj
        · rw [show m + (o :: r).length = m + 1 + r.length by simp; omega]; exact e4
theorem tl_skip : ∀ (l : List Oper) (ks : List Nat) (m n : Nat), m ≤ n → (∀ j, m ≤ j → j < n → ks.getD j 2 ≠ 2) → n ≤ ks.length → l.length = ks.length → tl (l.drop m) (ks.drop m) = tl (l.drop n) (ks.drop n) := by
  intro l ks m n hmn h hn hl
  induction n with
  | zero => have : m = 0 := by omega
            subst this; rfl
  | succ n ih =>
    by_cases e : m = n + 1
    · subst e; rfl
    · rw [ih (by omega) (fun j h1 h2 => h j h1 (by omega)) (by omega)]
      have hk : n < ks.length := by omega
      have hl' : n < l.length := by omega
      rw [List.drop_eq_getElem_cons hl', List.drop_eq_getElem_cons hk, tl, if_neg]
      have := h n (by omega) (by omega)
      rwa [List.getD_eq_getElem?_getD, List.getElem?_eq_getElem hk] at this
theorem tl_here (l : List Oper) (ks : List Nat) (n : Nat) (hl : n < l.length) (hk : n < ks.length) (h : ks.getD n 2 = 2) : tl (l.drop n) (ks.drop n) = l[n] :: tl (l.drop (n + 1)) (ks.drop (n + 1)) := by
  rw [List.drop_eq_getElem_cons hl, List.drop_eq_getElem_cons hk, tl, if_pos]
  rwa [List.getD_eq_getElem?_getD, List.getElem?_eq_getElem hk] at h
theorem wp_region_genI {id : Nat} {a : Act} {w : World} (I : (Nat → Bool) → (Nat → Value) → World → Prop) (ks : List Nat)
    (hm : P.follows .mixedOrders = true) (hok : okC ops ks = true) (h0 : I (fun _ => false) (fun _ => undef) w.drew)
    (hs : Walk P ops I (fun f => ∀ d (U : Nat → Value) w', I d U w' → (∀ j, j < ops.size → d j = decide (cls ks j ≠ 2)) → wpList P ops Q (tl ops.toList ks) (f U) w') 0 ops.toList ks (fun _ => a)) : (Code.region id ops true).wp P Q a w := by
  have hok' := hok
  unfold okC at hok'
  rw [Bool.and_eq_true, Bool.and_eq_true] at hok'
  obtain ⟨⟨he, hlen0⟩, hp⟩ := hok'
  have hlen : ks.length = ops.size := by simpa using hlen0
  have hcget : ∀ j c, ks[j]? = some c → cls ks j = c := fun j c h => by unfold cls; rw [List.getD_eq_getElem?_getD, h]; rfl
  have hgetc : ∀ j c, j < ops.size → cls ks j = c → ks[j]? = some c := fun j c hj h => by
    unfold cls at h
    rw [List.getD_eq_getElem?_getD, List.getElem?_eq_getElem (by omega)] at h
    rw [List.getElem?_eq_getElem (by omega)]
    simpa using h
  have hrow : ∀ i, i < ops.size → ((ops[i]?).map fun o => !isSel o.op).getD true = true ∧ (∀ j, j < ops.size → pairC ops ks i j = true) ∧ (cls ks i = 2 → ∀ j, j < ops.size → (cls ks j = 2 ∧ i ≤ j) ∨ ((masks ops ops.size).getD i 0).testBit j = true) := by
    intro i hi
    have h1 := List.all_eq_true.1 hp i (List.mem_range.2 hi)
    rw [Bool.and_eq_true, Bool.and_eq_true, Bool.and_eq_true] at h1
    refine ⟨h1.1.1.1, fun j hj => List.all_eq_true.1 h1.1.2 j (List.mem_range.2 hj), fun hc j hj => ?_⟩
    have h2 := h1.2
    rw [if_pos hc] at h2
    have h3 := List.all_eq_true.1 h2 j (List.mem_range.2 hj)
    rw [Bool.or_eq_true, Bool.and_eq_true, decide_eq_true_eq, decide_eq_true_eq] at h3
    exact h3
  have hthree : ∀ i, i < ops.size → cls ks i ≤ 2 := by
    intro i hi
    have h1 := List.all_eq_true.1 hp i (List.mem_range.2 hi)
    rw [Bool.and_eq_true, Bool.and_eq_true, Bool.and_eq_true] at h1
    simpa using h1.1.1.2
  obtain ⟨V, _, hstD, hstN, hE⟩ := walk_vals (P := P) (ops := ops) ks a ops.toList ks 0 (fun _ => undef) (by simp [hlen]) (fun j o hj => by simpa using hj) (fun j c hj => by rw [Nat.zero_add]; exact hcget j c hj) (fun j hj => by rw [Nat.zero_add]; exact hthree j (by omega)) hs
  simp only [Nat.zero_add] at hstD hstN hE
  rw [show ops.toList.length = ops.size by simp] at hE
  have pair : ∀ (i j : Nat) (x y : Oper) (t : Nat), ops[i]? = some x → ops[j]? = some y → cls ks i ≠ 2 → cls ks j ≠ 2 → y.dst = some t → (x.dst = some t → i = j) ∧ (t ∈ x.looksAt ops → (j < i ∧ bindsOn x j = true) ∨ (i < j ∧ bindsOn y i = true)) := by
    intro i j x y t hx hy hci hcj ht
    have hi : i < ops.size := (Array.getElem?_eq_some_iff.1 hx).1
    have hj : j < ops.size := (Array.getElem?_eq_some_iff.1 hy).1
    have h2 := (hrow i hi).2.1 j hj
    unfold pairC at h2
    simp only [hx, hy, ht, if_neg hci, if_neg hcj] at h2
    rw [Bool.and_eq_true] at h2
    refine ⟨fun e => ?_, fun hm => ?_⟩
    · have := h2.1
      rw [e] at this
      simpa using this
    · have h3 := h2.2
      by_cases hc1 : cls ks j = 1 ∧ cls ks i = 0
      · rw [if_pos hc1] at h3
        simp at h3
        exact absurd hm h3
      · rw [if_neg hc1] at h3
        simp at h3
        rcases h3 with (h | h) | h
        · exact absurd hm h
        · exact .inl h
        · exact .inr h
  have nosel : ∀ (i : Nat) (x : Oper) cs b, ops[i]? = some x → x.op ≠ .select cs b := by
    intro i x cs b hx hc
    have hi : i < ops.size := (Array.getElem?_eq_some_iff.1 hx).1
    have h1 := (hrow i hi).1
    rw [hx] at h1
    simp [hc, isSel] at h1
  have deps : ∀ (d : Nat → Bool) (i : Nat) (o : Oper), may ops d i → ops[i]? = some o → ∀ e, e ∈ o.after → Region.binds .any e = true → d e.on = true := by
    intro d i o hmay ho e h1 h2
    have := hmay.2 o ho
    rw [Array.all_eq_true_iff_forall_mem] at this
    have := this e h1
    rw [h2] at this
    simpa using this
  have tailb : ∀ (d : Nat → Bool) (i : Nat), Closed ops d → cls ks i = 2 → i < ops.size → may ops d i → ∀ j, j < ops.size → (cls ks j ≠ 2 ∨ j < i) → d j = true := by
    intro d i hcl hc hi hmay j hj hor
    rcases (hrow i hi).2.2 hc j hj with ⟨h1, h2⟩ | h
    · rcases hor with h3 | h3
      · exact absurd h1 h3
      · omega
    · rw [masks_get ops ops.size i hi] at h
      exact mask_done he d hcl ops.size i hi (Nat.le_refl _) (fun o ho => deps d i o hmay ho) j h
  let J1 : (Nat → Bool) → Act → World → Prop := fun d x wx => ∃ U : Nat → Value, x = fr ops (VU ks V U) d a ops.size ∧ I d U wx ∧ Closed ops d ∧ (∀ j, cls ks j = 2 → d j = false) ∧ ∃ j, j < ops.size ∧ cls ks j ≠ 2 ∧ d j = false
  let J2 : (Nat → Bool) → Act → World → Prop := fun d x wx => ∃ m, m ≤ ops.size ∧ Closed ops d ∧ (∀ j, j < ops.size → d j = (decide (cls ks j ≠ 2) || decide (j < m))) ∧ wpList P ops Q (tl (ops.toList.drop m) (ks.drop m)) x wx
  have enter : ∀ d x wx (U : Nat → Value), x = fr ops (VU ks V U) d a ops.size → I d U wx → Closed ops d → (∀ j, cls ks j = 2 → d j = false) → (∀ j, j < ops.size → cls ks j ≠ 2 → d j = true) → J2 d x wx := by
    intro d x wx U hx hIw hcl hf htr
    have hdd : ∀ j, j < ops.size → d j = decide (cls ks j ≠ 2) := fun j hj => by
      by_cases hc : cls ks j = 2
      · rw [hf j hc, hc]; simp
      · rw [htr j hj hc]; simp [hc]
    refine ⟨0, Nat.zero_le _, hcl, fun j hj => ?_, ?_⟩
    · by_cases hc : cls ks j = 2
      · rw [hf j hc, hc]; simp
      · rw [htr j hj hc]; simp [hc]
    · have h1 := hE d U wx hIw hdd
      rw [List.drop_zero, List.drop_zero, hx, fr_congr (VU ks V U) a d (isDN ks) ops.size (fun j hj => ?_)]
      · exact h1
      · by_cases hc : cls ks j = 2
        · rw [hf j hc]; simp [isDN, hc]
        · rw [htr j hj hc]
          unfold isDN
          have h3c := hthree j hj
          by_cases h0c : cls ks j = 0
          · simp [h0c]
          · by_cases h1c : cls ks j = 1
            · simp [h1c]
            · omega
  refine wp_region_inv (fun d x wx => J1 d x wx ∨ J2 d x wx) hm he ?_ ?_ ?_
  · have hz : ∀ V', fr ops V' (fun _ => false) a ops.size = a := by
      intro V'
      have : ∀ k, fr ops V' (fun _ => false) a k = a := by
        intro k
        induction k with
        | zero => rfl
        | succ k ih => rw [fr, ih]; simp
      exact this _
    have hcl0 : Closed ops (fun _ => false) := fun _ _ _ h => by cases h
    by_cases hall : ∀ j, j < ops.size → cls ks j = 2
    · exact .inr (enter _ _ _ (fun _ => undef) (hz _).symm h0 hcl0 (fun _ _ => rfl) (fun j hj h => absurd (hall j hj) h))
    · rw [Classical.not_forall] at hall
      obtain ⟨j, hj⟩ := hall
      rw [Classical.not_imp] at hj
      exact .inl ⟨fun _ => undef, (hz _).symm, h0, hcl0, (fun _ _ => rfl), j, hj.1, hj.2, rfl⟩
  · rintro d x wx i (⟨U, rfl, hI, hcl, hfz, j0, hj0, hcj0, hdj0⟩ | ⟨m, hm', hcl, hd, hw⟩) hi hmay
    · have hci : cls ks i ≠ 2 := by
        intro h
        have := tailb d i hcl h hi hmay j0 hj0 (.inl hcj0)
        rw [hdj0] at this; cases this
      obtain ⟨o, ho⟩ : ∃ o, ops[i]? = some o := ⟨ops[i], Array.getElem?_eq_getElem hi⟩
      have hdeps := deps d i o hmay ho
      have hput : ∀ (V' : Nat → Value) v, v = V' i → (fr ops V' d a ops.size).put o.dst v = fr ops V' (don d i) a ops.size := by
        rintro V' v rfl
        rw [fr_put2 V' a d i hmay.1 ops.size (fun j hj hdj t ht => fun hjt => ?_), if_pos hi, ho]
        · rfl
        · obtain ⟨y, hy⟩ : ∃ y, ops[j]? = some y := ⟨ops[j], Array.getElem?_eq_getElem hj⟩
          rw [hy] at hjt
          rw [ho] at ht
          have hcj : cls ks j ≠ 2 := by intro h; rw [hfz j h] at hdj; cases hdj
          have := (pair i j o y t ho hy hci hcj hjt).1 ht
          subst this
          rw [hmay.1] at hdj; cases hdj
      have hclo : Closed ops (don d i) := by
        intro j o' hj hdj e e1 e2
        have : d e.on = true := by
          by_cases hji : j = i
          · subst hji
            rw [ho] at hj
            cases hj
            exact hdeps e e1 e2
          · rw [don_other _ _ _ hji] at hdj
            exact hcl j o' hj hdj e e1 e2
        unfold don; split
        · rfl
        · exact this
      have hnext : ∀ (U' : Nat → Value) x w', x = fr ops (VU ks V U') (don d i) a ops.size → I (don d i) U' w' → J1 (don d i) x w' ∨ J2 (don d i) x w' := by
        intro U' x w' hx hI'
        have hf' : ∀ j, cls ks j = 2 → don d i j = false := fun j hj => by
          have hji : j ≠ i := by intro e; subst e; exact hci hj
          rw [don_other _ _ _ hji]; exact hfz j hj
        by_cases hall : ∀ j, j < ops.size → cls ks j ≠ 2 → don d i j = true
        · exact .inr (enter _ _ _ U' hx hI' hclo hf' hall)
        · refine .inl ⟨U', hx, hI', hclo, hf', ?_⟩
          rw [Classical.not_forall] at hall
          obtain ⟨j, hj⟩ := hall
          rw [Classical.not_imp, Classical.not_imp] at hj
          exact ⟨j, hj.1, hj.2.1, by simpa using hj.2.2⟩
      have hsame : ∀ t, t ∈ o.looksAt ops → (fr ops (VU ks V U) d a ops.size).tmps[t]? = (fr ops (VU ks V U) (isDN ks) a i).tmps[t]? := by
        intro t ht
        have := fr_get2 (ops := ops) (VU ks V U) a d (isDN ks) i t ops.size (fun j hj hjt => by
          obtain ⟨y, hy⟩ : ∃ y, ops[j]? = some y := ⟨ops[j], Array.getElem?_eq_getElem hj⟩
          rw [hy] at hjt
          by_cases hc2 : cls ks j = 2
          · exact .inr ⟨hfz j hc2, .inl (by simp [isDN, hc2])⟩
          · have hdn : isDN ks j = true := by
              have := hthree j hj
              unfold isDN
              by_cases h0c : cls ks j = 0
              · simp [h0c]
              · have : cls ks j = 1 := by omega
                simp [this]
            rcases (pair i j o y t ho hy hci hc2 hjt).2 ht with ⟨h1, h2⟩ | ⟨h1, h2⟩
            · obtain ⟨e, e1, e2, e3⟩ := bindsOn_spec h2
              exact .inl ⟨h1, e3 ▸ hdeps e e1 e2, hdn⟩
            · refine .inr ⟨?_, .inr (by omega)⟩
              cases hdj : d j with
              | false => rfl
              | true =>
                obtain ⟨e, e1, e2, e3⟩ := bindsOn_spec h2
                have := hcl j y hy hdj e e1 e2
                rw [e3, hmay.1] at this; cases this)
        rw [this, show min ops.size i = i by omega]
      have hex : execOp (fr ops (VU ks V U) d a ops.size).eval o = execOp (fr ops (VU ks V U) (isDN ks) a i).eval o := by
        refine execOp_congr o (fun cs b => nosel i o cs b ho) (fun x hx => ?_)
        cases x with
        | tmp t => exact eval_get (hsame t (mem_looks hx))
        | _ => rfl
      have hwa := wanted_get hsame
      by_cases hc0 : cls ks i = 0
      · have hVi : V i = VU ks V U i := by unfold VU; rw [if_neg (by omega)]
        unfold wpOp
        rw [ho]
        simp only
        rcases hstD i o U (by simpa using ho) hc0 with ⟨h1, h2⟩ | ⟨h1, h2, h3⟩
        · rw [hwa, h1, if_pos rfl]
          refine .inl ?_
          unfold Oper.wp
          rw [hex]
          exact upv_upon (h2 _ d wx hI hmay (fun w' hI' => hnext U _ _ (hput _ _ hVi) hI'))
        · rw [hwa, h1]
          simp only [Bool.false_eq_true, if_false]
          exact hnext U _ _ (hput _ _ (h2.symm.trans hVi)) (h3 d wx hI hmay)
      · have hc1 : cls ks i = 1 := by have := hthree i hi; omega
        obtain ⟨hg, hrun⟩ := hstN i o U (by simpa using ho) hc1
        unfold wpOp
        rw [ho]
        simp only
        rw [if_pos (show Region.wanted o (yielded ops (fr ops (VU ks V U) d a ops.size).tmps) = true by simp [Region.wanted, hg])]
        refine .inl ?_
        unfold Oper.wp
        rw [hex]
        refine upv_upon (hrun _ d wx hI hmay (fun v w' hI' => ?_))
        have hU : ∀ j, j ≠ i → updU U i v j = U j := fun j hj => by unfold updU; rw [if_neg hj]
        have hUi : updU U i v i = v := by simp [updU]
        have hfr : fr ops (VU ks V U) d a ops.size = fr ops (VU ks V (updU U i v)) d a ops.size := fr_V a d _ _ _ (fun j _ hdj => by
          have hji : j ≠ i := by intro e; subst e; rw [hmay.1] at hdj; cases hdj
          unfold VU; rw [hU j hji])
        have hval : v = VU ks V (updU U i v) i := by unfold VU; rw [if_pos hc1, hUi]
        exact hnext (updU U i v) _ _ (by rw [hfr]; exact hput _ _ hval) hI'
    · have hci : cls ks i = 2 := by
        have h1 := hd i hi
        rw [hmay.1] at h1
        by_cases hc : cls ks i = 2
        · exact hc
        · simp [hc] at h1
      have him : ¬ i < m := by
        intro h
        have h1 := hd i hi
        rw [hmay.1, decide_eq_true h] at h1
        simp at h1
      have hbefore := tailb d i hcl hci hi hmay
      have hnone : ∀ j, m ≤ j → j < i → ks.getD j 2 ≠ 2 := by
        intro j h1 h2 h3
        have h4 := hbefore j (by omega) (.inr h2)
        rw [hd j (by omega)] at h4
        have : cls ks j = 2 := h3
        rw [this, decide_eq_false (show ¬ j < m by omega)] at h4
        simp at h4
      have hlo : ops.toList.length = ks.length := by simp [hlen]
      rw [tl_skip ops.toList ks m i (by omega) hnone (by omega) hlo, tl_here ops.toList ks i (by simpa using hi) (by omega) hci] at hw
      have hcloD : Closed ops (don d i) := by
        obtain ⟨o, ho⟩ : ∃ o, ops[i]? = some o := ⟨ops[i], Array.getElem?_eq_getElem hi⟩
        intro j o' hj hdj e e1 e2
        have : d e.on = true := by
          by_cases hji : j = i
          · subst hji; exact deps d j o' hmay hj e e1 e2
          · rw [don_other _ _ _ hji] at hdj
            exact hcl j o' hj hdj e e1 e2
        unfold don; split
        · rfl
        · exact this
      have key : ∀ x' w', wpList P ops Q (tl (ops.toList.drop (i + 1)) (ks.drop (i + 1))) x' w' → J1 (don d i) x' w' ∨ J2 (don d i) x' w' := fun x' w' h => .inr ⟨i + 1, by omega, hcloD, fun j hj => by
        by_cases hji : j = i
        · subst hji; rw [don_same]; simp
        · rw [don_other _ _ _ hji, hd j hj]
          by_cases hc : cls ks j = 2
          · have e : decide (j < m) = decide (j < i + 1) := by
              rw [decide_eq_decide]
              constructor
              · intro _; omega
              · intro h1
                rcases Nat.lt_or_ge j m with h2 | h2
                · exact h2
                · exact absurd hc (hnone j h2 (by omega))
            rw [e]
          · simp [hc], h⟩
      refine wpOp_mono key ?_
      unfold wpOp
      rw [Array.getElem?_eq_getElem hi]
      rw [show ops.toList[i] = ops[i] by simp] at hw
      exact hw
  · rintro d x wx (⟨_, _, _, _, _, j, hj, _, hdj⟩ | ⟨m, hm', hcl, hd, hw⟩) hall
    · have := hall j hj
      rw [hdj] at this; cases this
    · have hlo : ops.toList.length = ks.length := by simp [hlen]
      rw [tl_skip ops.toList ks m ops.size hm' (fun j h1 h2 h3 => by
        have h4 := hall j h2
        rw [hd j h2] at h4
        have : cls ks j = 2 := h3
        rw [this, decide_eq_false (show ¬ j < m by omega)] at h4
        simp at h4) (by omega) hlo, List.drop_eq_nil_of_le (by simp)] at hw
      unfold tl at hw
      exact hw
section
variable {I : (Nat → Bool) → (Nat → Value) → World → Prop} {E : ((Nat → Value) → Act) → Prop} {j : Nat} {o : Oper} {r : List Oper} {k : List Nat} {f f' : (Nat → Value) → Act} {v : Value}
theorem goD (hg : o.guard = none) (h : ∀ U (K : Value → World → Prop) d w, I d U w → may ops d j → (∀ w', I (don d j) U w' → K v w') → upv P K ((execOp (f U).eval o).run P w)) (he : ∀ U, (f U).put o.dst v = f' U)
    (hr : Walk P ops I E (j + 1) r k f') : Walk P ops I E j (o :: r) (0 :: k) f := by
  unfold Walk
  rw [if_pos rfl]
  have e : (fun U => (f U).put o.dst v) = f' := funext he
  exact ⟨v, fun U => .inl ⟨by simp [Region.wanted, hg], h U⟩, e ▸ hr⟩
theorem goDg (hg : ∀ U, Region.wanted o (yielded ops (f U).tmps) = true) (h : ∀ U (K : Value → World → Prop) d w, I d U w → may ops d j → (∀ w', I (don d j) U w' → K v w') → upv P K ((execOp (f U).eval o).run P w)) (he : ∀ U, (f U).put o.dst v = f' U)
    (hr : Walk P ops I E (j + 1) r k f') : Walk P ops I E j (o :: r) (0 :: k) f := by
  unfold Walk
  rw [if_pos rfl]
  have e : (fun U => (f U).put o.dst v) = f' := funext he
  exact ⟨v, fun U => .inl ⟨hg U, h U⟩, e ▸ hr⟩
theorem goD0 (hg : ∀ U, Region.wanted o (yielded ops (f U).tmps) = false) (h : ∀ U d w, I d U w → may ops d j → I (don d j) U w) (he : ∀ U, (f U).put o.dst undef = f' U)
    (hr : Walk P ops I E (j + 1) r k f') : Walk P ops I E j (o :: r) (0 :: k) f := by
  unfold Walk
  rw [if_pos rfl]
  have e : (fun U => (f U).put o.dst undef) = f' := funext he
  exact ⟨undef, fun U => .inr ⟨hg U, rfl, h U⟩, e ▸ hr⟩
theorem goN (hg : o.guard = none) (h : ∀ U (K : Value → World → Prop) d w, I d U w → may ops d j → (∀ v w', I (don d j) (updU U j v) w' → K v w') → upv P K ((execOp (f U).eval o).run P w)) (he : ∀ U, (f U).put o.dst (U j) = f' U)
    (hr : Walk P ops I E (j + 1) r k f') : Walk P ops I E j (o :: r) (1 :: k) f := by
  unfold Walk
  rw [if_neg (by decide), if_pos rfl]
  have e : (fun U => (f U).put o.dst (U j)) = f' := funext he
  exact ⟨hg, h, e ▸ hr⟩
theorem goT (hr : Walk P ops I E (j + 1) r k f) : Walk P ops I E j (o :: r) (2 :: k) f := by
  unfold Walk
  rw [if_neg (by decide), if_neg (by decide)]
  exact hr
theorem go_end (h : E f) : Walk P ops I E j [] [] f := by
  unfold Walk; exact h
end
end RH
end Go.Proofs.YtddaajdcoifmoaaDoor
/- code: bytes behind bytes, in any order; whether an operation is short. -/
namespace Go.Proofs.YtddaajdcoifmoaaDoor
namespace Cd
open Go.RowKit Go.Maps RI RH
theorem cuU_s (U : Nat → Value) (i : Nat) (x : Value) : updU U i x i = x := by simp [updU]
/-- A row of bytes of a call's own. -/
def Rb (B : Nat) (l : List UInt8) (v : Value) (w : World) : Prop := w.ownsRow B 5 1 v l.length (Pk.bcs l)
theorem Rb_below {B : Nat} {l : List UInt8} {v : Value} {w w' : World} (h : Rb B l v w) (hb : Below w.heap.size w w') : Rb B l v w' := h.kept (⟨hb.os, hb.tape, hb.output, hb.size, fun j hj _ => hb.block j hj⟩ : w.grownBy w' none) ((Classical.em (v.ownBlock = none)).elim .inl .inr)
theorem Rb_nil (B : Nat) (w : World) : Rb B [] (.slice none 0 0) w := World.ownsRow_nil _ _ _ _
theorem Rb_lt {B : Nat} {l : List UInt8} {v : Value} {w : World} (h : Rb B l v w) : ∀ g, v.ownBlock = some g → B ≤ g ∧ g < w.heap.size := fun g hg => Sp.own_lo h g hg
theorem Rb_map {B : Nat} {l : List UInt8} {v : Value} {w : World} {bm : Nat} (h : Rb B l v w) (hm : Om bm w) : some bm ≠ v.ownBlock := by
  intro e
  obtain ⟨es, clock, hb, _⟩ := hm
  rcases h.2 with ⟨h3, _⟩ | ⟨g, cap, cur, h3, h5⟩
  · subst h3; cases e
  · subst h3
    injection e with e
    subst e
    have := h5.2.1
    rw [hb] at this
    cases this
theorem Rb_sl {B : Nat} {l : List UInt8} {v : Value} {w : World} (h : Rb B l v w) : Sl l v w := by
  rcases h.2 with ⟨h3, h4⟩ | ⟨g, cap, cur, h3, h5⟩
  · have e : l = [] := List.length_eq_zero_iff.1 h4
    subst e h3
    exact sl_nil w
  · have h6 := h
    subst h3
    refine ⟨_, cap, rfl, h5.2.2.1, fun h0 => ⟨g, 0, rfl, Pk.lt_of_heap h5.2.1, fun j hj => ?_⟩⟩
    rw [Nat.zero_add, h6.cellAt j (by omega)]
    simp [Pk.bcs, Sp.bz, hj]
theorem Om_grown {b : Nat} {w w' : World} {row : Option Nat} (h : Om b w) (hg : w.grownBy w' row) (hne : some b ≠ row) : Om b w' := World.ownsMap.kept h hg hne
theorem Sn_grown {B : Nat} {b : List UInt8} {ao : Option Addr} {cap : Nat} {w w' : World} {row : Option Nat} (h : Sn B b ao cap w) (hg : w.grownBy w' row) (hr : ∀ g, row = some g → g < B) : Sn B b ao cap w' := by
  refine ⟨?_, h.2⟩
  obtain ⟨a1, c1, e1, h1, h2⟩ := h.1
  injection e1 with e1 e2 e3
  subst e1 e3
  refine ⟨ao, cap, rfl, h1, fun h0 => ?_⟩
  obtain ⟨k, off, rfl, hk, hc⟩ := h2 h0
  have hB : B ≤ k := h.2 _ rfl
  refine ⟨k, off, rfl, Nat.lt_of_lt_of_le hk hg.size, fun j hj => ?_⟩
  rw [World.cell?_of_block (hg.block k hk (fun e => by have := hr k e.symm; omega))]
  exact hc j hj
/-- What holds while code grows by an operation, and by what it has behind it. -/
structure J9 (B K bm h : Nat) (w0 : World) (C : List UInt8) (y : UInt8) (vc : Value) (b : List UInt8) (ao : Option Addr) (cap : Nat) (d : Nat → Bool) (U : Nat → Value) (wx : World) : Prop where
  bel : Below B w0 wx
  sz : K ≤ wx.heap.size ∧ h < wx.heap.size
  om : Om bm wx
  a : d 4 = false → Rb B C vc wx
  u3 : d 3 = true → d 4 = false → ∃ g, U 3 = .slice (some ⟨g, 0, none⟩) 1 1 ∧ g < wx.heap.size ∧ wx.cell? ⟨g, 0, none⟩ = some (.int .u8 (y.toNat : Int))
  bx : d 7 = false → wx.cell? ⟨h, 0, none⟩ = some (.int .u8 (y.toNat : Int)) ∧ wx.cell? ⟨h, 1, none⟩ = some (.slice ao b.length cap) ∧ Sn K b ao cap wx
  u4 : d 4 = true → d 7 = false → Rb B (C ++ [y]) (U 4) wx
  u7 : d 7 = true → Rb B (C ++ [y] ++ b) (U 7) wx
  q7 : d 7 = true → d 4 = true ∧ d 6 = true ∧ d 2 = true
  q4 : d 4 = true → d 3 = true ∧ d 2 = true
  q3 : d 3 = true → d 2 = true
variable {B K bm h : Nat} {w0 : World} {C : List UInt8} {y : UInt8} {vc : Value} {b : List UInt8} {ao : Option Addr} {cap : Nat} {d : Nat → Bool} {U : Nat → Value} {wx : World}
theorem J9.keep {i : Nat} (hi : i ≠ 3 ∧ i ≠ 4 ∧ i ≠ 7) (H : J9 B K bm h w0 C y vc b ao cap d U wx) : J9 B K bm h w0 C y vc b ao cap (don d i) U wx := by
  have e3 : don d i 3 = d 3 := don_other _ _ _ (fun e => hi.1 e.symm)
  have e4 : don d i 4 = d 4 := don_other _ _ _ (fun e => hi.2.1 e.symm)
  have e7 : don d i 7 = d 7 := don_other _ _ _ (fun e => hi.2.2 e.symm)
  have m : ∀ k, d k = true → don d i k = true := fun k hk => by
    by_cases e : k = i
    · subst e; exact don_same _ _
    · rw [don_other _ _ _ e]; exact hk
  refine ⟨H.bel, H.sz, H.om, ?_, ?_, ?_, ?_, ?_, ?_, ?_, ?_⟩
  · rw [e4]; exact H.a
  · rw [e3, e4]; exact H.u3
  · rw [e7]; exact H.bx
  · rw [e4, e7]; exact H.u4
  · rw [e7]; exact H.u7
  · rw [e7]; exact fun q => ⟨m _ (H.q7 q).1, m _ (H.q7 q).2.1, m _ (H.q7 q).2.2⟩
  · rw [e4]; exact fun q => ⟨m _ (H.q4 q).1, m _ (H.q4 q).2⟩
  · rw [e3]; exact fun q => m _ (H.q3 q)
theorem J9.n7 (H : J9 B K bm h w0 C y vc b ao cap d U wx) (hd : d 6 = false ∨ d 2 = false ∨ d 4 = false) : d 7 = false := by
  cases e : d 7
  · rfl
  · obtain ⟨h1, h2, h3⟩ := H.q7 e
    rcases hd with k | k | k
    · rw [h2] at k; cases k
    · rw [h3] at k; cases k
    · rw [h1] at k; cases k
theorem J9.n4 (H : J9 B K bm h w0 C y vc b ao cap d U wx) (hd : d 3 = false) : d 4 = false := by
  cases e : d 4
  · rfl
  · rw [(H.q4 e).1] at hd; cases hd
theorem J9.start (hb : Below B w0 wx) (hs : K ≤ wx.heap.size ∧ h < wx.heap.size) (ho : Om bm wx) (hr : Rb B C vc wx) (h0 : wx.cell? ⟨h, 0, none⟩ = some (.int .u8 (y.toNat : Int))) (h1 : wx.cell? ⟨h, 1, none⟩ = some (.slice ao b.length cap)) (hn : Sn K b ao cap wx) : J9 B K bm h w0 C y vc b ao cap (fun _ => false) (fun _ => undef) wx :=
  ⟨hb, hs, ho, fun _ => hr, nofun, fun _ => ⟨h0, h1, hn⟩, nofun, nofun, nofun, nofun, nofun⟩
theorem J9.step3 (H : J9 B K bm h w0 C y vc b ao cap d U wx) (h3 : d 3 = false) (h2 : d 2 = true) (hB : B ≤ K) : J9 B K bm h w0 C y vc b ao cap (don d 3) (updU U 3 (.slice (some ⟨wx.heap.size, 0, none⟩) 1 1)) (wx.alloc (.cells #[.int .u8 (y.toNat : Int)] 5)) := by
  have h4 := H.n4 h3
  have h7 := H.n7 (.inr (.inr h4))
  have e2 : don d 3 2 = d 2 := don_other _ _ _ (by decide)
  have e4 : don d 3 4 = false := by rw [don_other _ _ _ (by decide)]; exact h4
  have e7 : don d 3 7 = false := by rw [don_other _ _ _ (by decide)]; exact h7
  have bA : Below wx.heap.size wx (wx.alloc (.cells #[.int .u8 (y.toNat : Int)] 5)) := (Below.refl _ _).alloc (Nat.le_refl _) _
  obtain ⟨b0, b1, b2⟩ := H.bx h7
  refine ⟨H.bel.trans (bA.mono (Nat.le_trans hB H.sz.1)), ⟨Nat.le_trans H.sz.1 bA.size, Nat.lt_of_lt_of_le H.sz.2 bA.size⟩, Om_below H.om bA, fun _ => Rb_below (H.a h4) bA, fun _ _ => ?_, fun _ => ⟨(bA.cell (p := ⟨h, 0, none⟩) H.sz.2).trans b0, (bA.cell (p := ⟨h, 1, none⟩) H.sz.2).trans b1, Sn_below b2 bA⟩, fun k => ?_, fun k => ?_, fun k => ?_, fun k => ?_, fun _ => by rw [e2]; exact h2⟩
  · rw [cuU_s]
    exact ⟨wx.heap.size, rfl, by simp, by simp⟩
  · rw [e4] at k; cases k
  · rw [e7] at k; cases k
  · rw [e7] at k; cases k
  · rw [e4] at k; cases k
theorem one_sl {g : Nat} (hg : g < wx.heap.size) (hc : wx.cell? ⟨g, 0, none⟩ = some (.int .u8 (y.toNat : Int))) : Pk.Sl [y] (.slice (some ⟨g, 0, none⟩) 1 1) wx :=
  ⟨_, 1, rfl, Nat.le_refl _, fun _ => ⟨g, 0, rfl, hg, fun j hj => by
    obtain rfl : j = 0 := by simp at hj; omega
    exact hc⟩⟩
theorem J9.step4 (H : J9 B K bm h w0 C y vc b ao cap d U wx) (h4 : d 4 = false) (h3 : d 3 = true) (hB : B ≤ K) (hv : ∀ g, vc.ownBlock = some g → g < K) (hh : K ≤ h) (hl : C.length + 1 ≤ 4194304) (ty : TypeId) :
    ∃ v' w', (Builtin.append_ #[24, 24] ty #[vc, U 3]).run Tryd.prog wx = .ok v' w' ∧ J9 B K bm h w0 C y vc b ao cap (don d 4) (updU U 4 v') w' := by
  have h7 := H.n7 (.inr (.inr h4))
  obtain ⟨g, hu, hg, hc⟩ := H.u3 h3 h4
  have hr := H.a h4
  obtain ⟨v', w', ha, ho, hgr, _⟩ := Sp.app_own ty hr (one_sl hg hc) (Nat.le_trans hB H.sz.1) (by simp; omega)
  rw [hu]
  obtain ⟨b0, b1, b2⟩ := H.bx h7
  have e2 : don d 4 2 = d 2 := don_other _ _ _ (by decide)
  have e3 : don d 4 3 = d 3 := don_other _ _ _ (by decide)
  have e7 : don d 4 7 = false := by rw [don_other _ _ _ (by decide)]; exact h7
  have e4 : don d 4 4 = true := don_same _ _
  have hk : ∀ i, w'.cell? ⟨h, i, none⟩ = wx.cell? ⟨h, i, none⟩ := fun i => World.cell?_of_block (hgr.block h H.sz.2 (fun e => by have := hv h e.symm; omega))
  refine ⟨v', w', ha, H.bel.grown hgr (Nat.le_trans hB H.sz.1) (fun k hk => (Rb_lt hr k hk).1), ⟨Nat.le_trans H.sz.1 hgr.size, Nat.lt_of_lt_of_le H.sz.2 hgr.size⟩, Om_grown H.om hgr (Rb_map hr H.om), fun k => ?_, fun _ k => ?_, fun _ => ⟨by rw [hk]; exact b0, by rw [hk]; exact b1, Sn_grown b2 hgr hv⟩, fun _ _ => ?_, fun k => ?_, fun k => ?_, fun _ => ?_, fun k => ?_⟩
  · rw [e4] at k; cases k
  · rw [e4] at k; cases k
  · rw [cuU_s]; exact ho
  · rw [e7] at k; cases k
  · rw [e7] at k; cases k
  · rw [e3, e2]; exact ⟨h3, H.q3 h3⟩
  · rw [e3] at k; rw [e2]; exact H.q3 k
theorem J9.step7 (H : J9 B K bm h w0 C y vc b ao cap d U wx) (h7 : d 7 = false) (h4 : d 4 = true) (h6 : d 6 = true) (hB : B ≤ K) (hl : C.length + 1 + b.length ≤ 4194304) (ty : TypeId) :
    ∃ v' w', (Builtin.append_ #[24, 24] ty #[U 4, .slice ao b.length cap]).run Tryd.prog wx = .ok v' w' ∧ J9 B K bm h w0 C y vc b ao cap (don d 7) (updU U 7 v') w' := by
  have hr := H.u4 h4 h7
  obtain ⟨b0, b1, b2⟩ := H.bx h7
  obtain ⟨v', w', ha, ho, hgr, _⟩ := Sp.app_own ty hr (show Pk.Sl b (.slice ao b.length cap) wx from b2.1) (Nat.le_trans hB H.sz.1) (by simp; omega)
  have e2 : don d 7 2 = d 2 := don_other _ _ _ (by decide)
  have e3 : don d 7 3 = d 3 := don_other _ _ _ (by decide)
  have e4 : don d 7 4 = d 4 := don_other _ _ _ (by decide)
  have e6 : don d 7 6 = d 6 := don_other _ _ _ (by decide)
  have e7 : don d 7 7 = true := don_same _ _
  refine ⟨v', w', ha, H.bel.grown hgr (Nat.le_trans hB H.sz.1) (fun k hk => (Rb_lt hr k hk).1), ⟨Nat.le_trans H.sz.1 hgr.size, Nat.lt_of_lt_of_le H.sz.2 hgr.size⟩, Om_grown H.om hgr (Rb_map hr H.om), fun k => ?_, fun _ k => ?_, fun k => ?_, fun _ k => ?_, fun _ => ?_, fun _ => ?_, fun _ => ?_, fun k => ?_⟩
  · rw [e4, h4] at k; cases k
  · rw [e4, h4] at k; cases k
  · rw [e7] at k; cases k
  · rw [e7] at k; cases k
  · rw [cuU_s]; exact ho
  · rw [e4, e6, e2]; exact ⟨h4, h6, (H.q4 h4).2⟩
  · rw [e3, e2]; exact H.q4 h4
  · rw [e3] at k; rw [e2]; exact H.q3 k
set_option maxRecDepth 100000 in
theorem short_any (x : Nat) (hx : x < 256) (ao : Option Addr) (n cap : Nat) (w : World) : Calls Tryd.prog 29 #[.agg #[.int .u8 (x : Int), .slice ao n cap]] w fun e w' => e = .returned (.bool (decide (n < psh (x : Int)))) ∧ Below w.heap.size w w' := by
  have KU : Hid (∀ W : World, Calls Tryd.prog 36 #[.int .u8 (x : Int)] W fun e w' => e = .returned (.int .i64 (psh (x : Int) : Int)) ∧ Below W.heap.size W w') := fun W => pushed_any _ (by omega) (by omega) W
  generalize psh (x : Int) = P at *
  generalize (x : Int) = X at *
  clear hx
  go_enter Tryd.func29, Tryd.ntmps29
  go_upto_region 1 with fail
  have c0 : (w.alloc (.cells #[.int .u8 X, .slice ao n cap] 47)).cell? ⟨w.heap.size, 0, none⟩ = some (.int .u8 X) := by simp
  have e0 : (w.alloc (.cells #[.int .u8 X, .slice ao n cap] 47)).cell? ⟨w.heap.size, 1, none⟩ = some (.slice ao n cap) := by simp
  have b0 : Below w.heap.size w (w.alloc (.cells #[.int .u8 X, .slice ao n cap] 47)) := (Below.refl _ _).alloc (Nat.le_refl _) _
  have z0 : w.heap.size < (w.alloc (.cells #[.int .u8 X, .slice ao n cap] 47)).heap.size := by simp
  generalize w.alloc (.cells #[.int .u8 X, .slice ao n cap] 47) = W0 at *
  refine RS.wp_region_one (fun wx => Below W0.heap.size W0 wx) (by kernel_rfl) (by kernel_rfl) ((Below.refl _ _).drew) ?_
  dsimp only [List.toList_toArray]
  refine RS.go1 (v := ?_) (a' := ?_) rfl ?_ ?_ ?_
  rotate_left 2
  · intro K wx hS hK
    go_simp
    exact hK _ hS
  · simp only [Act.put, List.setIfInBounds_toArray, List.set_cons_succ, List.set_cons_zero]
    rfl
  refine RS.go1 (v := ?_) (a' := ?_) rfl ?_ ?_ ?_
  rotate_left 2
  · intro K wx hS hK
    have x1 := (hS.cell (p := ⟨w.heap.size, 1, none⟩) z0).trans e0
    go_simp
    exact hK _ hS
  · simp only [Act.put, List.setIfInBounds_toArray, List.set_cons_succ, List.set_cons_zero]
    rfl
  refine RS.go1 (v := ?_) (a' := ?_) rfl ?_ ?_ ?_
  rotate_left 2
  · intro K wx hS hK
    go_simp
    exact hK _ hS
  · simp only [Act.put, List.setIfInBounds_toArray, List.set_cons_succ, List.set_cons_zero]
    rfl
  refine RS.go1 (v := ?_) (a' := ?_) rfl ?_ ?_ ?_
  rotate_left 2
  · intro K wx hS hK
    go_simp
    exact hK _ hS
  · simp only [Act.put, List.setIfInBounds_toArray, List.set_cons_succ, List.set_cons_zero]
    rfl
  refine RS.go1 (v := ?_) (a' := ?_) rfl ?_ ?_ ?_
  rotate_left 2
  · intro K wx hS hK
    have x0 := (hS.cell (p := ⟨w.heap.size, 0, none⟩) z0).trans c0
    go_simp
    exact hK _ hS
  · simp only [Act.put, List.setIfInBounds_toArray, List.set_cons_succ, List.set_cons_zero]
    rfl
  refine RS.go1 (v := ?_) (a' := ?_) rfl ?_ ?_ ?_
  rotate_left 2
  · intro K wx hS hK
    go_simp
    refine (KU.out wx).mono (fun e w2 he => ?_)
    refine ⟨_, he.1, ?_⟩
    exact hK _ ((fun hS hb => Below.trans hS (Below.mono hb (Below.size hS))) hS he.2)
  · simp only [Act.put, List.setIfInBounds_toArray, List.set_cons_succ, List.set_cons_zero]
    rfl
  refine RS.go1 (v := ?_) (a' := ?_) rfl ?_ ?_ ?_
  rotate_left 2
  · intro K wx hS hK
    go_simp
    exact hK _ hS
  · simp only [Act.put, List.setIfInBounds_toArray, List.set_cons_succ, List.set_cons_zero]
    rfl
  refine RS.go1 (v := ?_) (a' := ?_) rfl ?_ ?_ ?_
  rotate_left 2
  · intro K wx hS hK
    go_simp
    exact hK _ hS
  · simp only [Act.put, List.setIfInBounds_toArray, List.set_cons_succ, List.set_cons_zero]
    rfl
  refine RS.go_end ?_
  intro w9 h9
  have H9 : Hid (Below w.heap.size w w9) := b0.trans (h9.mono b0.size)
  clear h9 b0 c0 e0 z0
  go_wp2_with fail
  go_ret
  exact ⟨rfl, H9.out⟩
end Cd
end Go.Proofs.YtddaajdcoifmoaaDoor
/- code.Landings and its reference. -/
namespace Go.Proofs.YtddaajdcoifmoaaDoor
namespace Cd
open Go.RowKit
/-- What the first i bytes come to: places to land, and how many bytes are still pushed. -/
def st (c : List UInt8) : Nat → List Nat × Nat
  | 0 => ([], 0)
  | i + 1 => if (st c i).2 ≠ 0 then ((st c i).1, (st c i).2 - 1) else (if Sp.bz c i = 91 then (st c i).1 ++ [i] else (st c i).1, psh (Sp.bz c i))
theorem st_push {c : List UInt8} {i : Nat} (h : (st c i).2 ≠ 0) : st c (i + 1) = ((st c i).1, (st c i).2 - 1) := by
  rw [st, if_pos h]
theorem st_op {c : List UInt8} {i : Nat} (h : (st c i).2 = 0) : st c (i + 1) = (if Sp.bz c i = 91 then (st c i).1 ++ [i] else (st c i).1, psh (Sp.bz c i)) := by
  rw [st, if_neg (by rw [h]; simp)]
theorem st_skip (c : List UInt8) (i : Nat) : ∀ j, j ≤ (st c i).2 → st c (i + j) = ((st c i).1, (st c i).2 - j)
  | 0, _ => rfl
  | j + 1, h => by
    have ih := st_skip c i j (by omega)
    have e : (st c (i + j)).2 ≠ 0 := by rw [ih]; show (st c i).2 - j ≠ 0; omega
    show st c (i + j + 1) = _
    rw [st_push e, ih]
    show ((st c i).1, (st c i).2 - j - 1) = _
    rw [Nat.sub_sub]
/-- A place at which one goes on. -/
def At (c : List UInt8) (i : Nat) : Prop := i ≤ c.length ∧ ((st c i).2 = 0 ∨ i = c.length)
theorem At_0 (c : List UInt8) : At c 0 := ⟨Nat.zero_le _, .inl rfl⟩
theorem At_next {c : List UInt8} {i : Nat} (h : At c i) (hi : i < c.length) : At c (nx c i) ∧ i < nx c i ∧ (st c (nx c i)).1 = if Sp.bz c i = 91 then (st c i).1 ++ [i] else (st c i).1 := by
  have h0 : (st c i).2 = 0 := by
    rcases h.2 with h | h
    · exact h
    · omega
  have e1 := st_op h0
  have en : nx c i = min (i + 1 + psh (Sp.bz c i)) c.length := by
    unfold nx
    rw [if_neg (by omega), Int.toNat_natCast]
  have hs : ∀ j, j ≤ psh (Sp.bz c i) → st c (i + 1 + j) = (if Sp.bz c i = 91 then (st c i).1 ++ [i] else (st c i).1, psh (Sp.bz c i) - j) := fun j hj => by
    have := st_skip c (i + 1) j (by rw [e1]; exact hj)
    rw [this, e1]
  rw [en]
  by_cases hc : i + 1 + psh (Sp.bz c i) ≤ c.length
  · rw [Nat.min_eq_left hc]
    have := hs _ (Nat.le_refl _)
    refine ⟨⟨hc, .inl (by rw [this]; simp)⟩, by omega, by rw [this]⟩
  · rw [Nat.min_eq_right (by omega)]
    have := hs (c.length - i - 1) (by omega)
    rw [show i + 1 + (c.length - i - 1) = c.length by omega] at this
    exact ⟨⟨Nat.le_refl _, .inr rfl⟩, hi, by rw [this]⟩
theorem st_le (c : List UInt8) : ∀ i, (st c i).1.length ≤ i
  | 0 => Nat.le_refl _
  | i + 1 => by
    have ih := st_le c i
    rw [st]
    split
    · show (st c i).1.length ≤ _; omega
    · dsimp only
      split
      · rw [List.length_append]; simp; omega
      · omega
theorem st_le2 (c : List UInt8) : ∀ i, (st c i).2 ≤ 32
  | 0 => by show 0 ≤ 32; omega
  | i + 1 => by
    have ih := st_le2 c i
    rw [st]
    split
    · show (st c i).2 - 1 ≤ _; omega
    · exact psh_le _
def ics (l : List Nat) : List Value := l.map fun (i : Nat) => Value.int .i64 (i : Int)
theorem ics_len (l : List Nat) : (ics l).length = l.length := by simp [ics]
def Ri (B : Nat) (l : List Nat) (v : Value) (w : World) : Prop := w.ownsRow B 3 1 v l.length (ics l)
theorem Ri_below {B : Nat} {l : List Nat} {v : Value} {w w' : World} (h : Ri B l v w) (hb : Below w.heap.size w w') : Ri B l v w' := h.kept (⟨hb.os, hb.tape, hb.output, hb.size, fun j hj _ => hb.block j hj⟩ : w.grownBy w' none) ((Classical.em (v.ownBlock = none)).elim .inl .inr)
theorem infoI : (Tryd.prog.info? 3).map (fun i => (i.zero, i.size, i.bytes)) = some (some (.int .i64 0), 1, 8) := by kernel_rfl
theorem app_i {base : Nat} {l : List Nat} {v : Value} {w : World} (ty : TypeId) (i : Nat) (h : Ri base l v w) (hbase : base ≤ w.heap.size) (hlen : l.length + 1 ≤ 4194304) :
    ∃ v' w', (Builtin.append_ #[37, 37] ty #[v, .slice (some ⟨w.heap.size, 0, none⟩) 1 1]).run Tryd.prog (w.alloc (.cells #[.int .i64 (i : Int)] 3 (0, 0))) = .ok v' w' ∧ Ri base (l ++ [i]) v' w' ∧ Below base w w' := by
  obtain ⟨i0, hi, hz0, hz1, hz2⟩ := info_parts infoI
  have bl : Below w.heap.size w (w.alloc (.cells #[.int .i64 (i : Int)] 3 (0, 0))) := (Below.refl _ _).alloc (Nat.le_refl _) _
  have h1 := Ri_below h bl
  have hN := heap_alloc_new w (.cells #[.int .i64 (i : Int)] 3 (0, 0))
  obtain ⟨v', w', hr, ho, hgr, _⟩ := run_append_own (P := Tryd.prog) (w.alloc (.cells #[.int .i64 (i : Int)] 3 (0, 0))) base 37 ty 3 i0 _ 1 8 Tryd.underlying37 hi hz0 hz1 hz2 rfl (by decide) v l.length (ics l) h1 ⟨w.heap.size, 0, none⟩ 1 1 [.int .i64 (i : Int)] rfl
    (fun j u hj => by
      have hj' : j < 1 := (List.getElem?_eq_some_iff.1 hj).1
      obtain rfl : j = 0 := by omega
      simp at hj
      subst hj
      rw [Sp.add_lit]
      simp only [World.cell?, hN]
      rfl) (fun u hu => by simp at hu; subst hu; rfl) (by unfold maxLen; omega) (by omega) (Nat.le_trans hbase bl.size)
  refine ⟨v', w', hr, ?_, (bl.mono hbase).trans ((Below.refl _ _).grown hgr (Nat.le_trans hbase bl.size) (fun k hk => (Sp.own_lo h1 k hk).1))⟩
  unfold Ri
  rw [List.length_append]
  show w'.ownsRow base _ 1 v' (l.length + 1) _
  have e : ics (l ++ [i]) = ics l ++ [.int .i64 (i : Int)] := by simp [ics]
  rw [e]
  exact ho
theorem stwI (k n : Nat) (h : k < n) (hn : n ≤ 4194304) : Hid (wrap64 ((k : Int) + 1) = k + 1) := by
  show _ = _
  unfold wrap64; omega
theorem stmI (k n q : Nat) (h : k < n) (hq : k < q) : ((n : Int) - intOf (.int .i64 (q : Int))).toNat < ((n : Int) - intOf (.int .i64 (k : Int))).toNat := by
  show ((n : Int) - (q : Int)).toNat < ((n : Int) - (k : Int)).toNat
  omega
set_option maxHeartbeats 2000000 in
set_option maxRecDepth 100000 in
theorem landings_big (c : List UInt8) (n : Nat) (hn : Hid (n = c.length)) (hz : Hid (n ≤ 2097152)) (ao : Option Addr) (cap : Nat) (w : World) (hv : Hid (Sp.Vw c ao w)) : Calls Tryd.prog 17 #[.slice ao n cap] w fun e w' => ∃ v, e = .returned v ∧ Ri w.heap.size (st c n).1 v w' ∧ Below w.heap.size w w' := by
  have KN : Hid (∀ (i : Nat) (W : World), Below w.heap.size w W → Calls Tryd.prog 16 #[.slice ao n cap, .int .i64 (i : Int)] W fun e w' => e = .returned (.int .i64 (nx c i : Int)) ∧ Below W.heap.size W w') := fun i W hb => next_any c n hn (by show _ ≤ _; have := hz.out; omega) ao cap i W (Sp.Vw_below hv.out hb)
  go_enter Tryd.func17, Tryd.ntmps17
  go_wp2_with fail
  go_loopw [3, 4] (fun v p wr => ∃ i : Nat, At c i ∧ p = .int .i64 (i : Int) ∧ Ri w.heap.size (st c i).1 v wr ∧ Below w.heap.size w wr) (fun _ p _ => ((n : Int) - intOf p).toNat)
  case atStart => exact ⟨0, At_0 c, rfl, World.ownsRow_nil _ _ _ _, Below.refl _ _⟩
  case round =>
    obtain ⟨i, hat, rfl, hr, hb⟩ := hrel
    by_cases hlt : i < n
    · have d0 : (0 : Int) ≤ (i : Int) := by omega
      have d1 : (i : Int) < (n : Int) := by omega
      have hic : i < c.length := by rw [← hn.out]; exact hlt
      obtain ⟨a1, a2, a3⟩ := At_next hat hic
      obtain ⟨g, off, rfl, hg, hc⟩ := hv.out (by omega)
      have ck := (hb.cell (p := ⟨g, off + i, none⟩) hg).trans (hc i hic)
      have HB : Hid _ := hb
      have HR : Hid _ := hr
      have A1 : Hid (At c (nx c i) ∧ i < nx c i) := ⟨a1, a2⟩
      have A3 : Hid _ := a3
      have HG : Hid (g < w.heap.size) := hg
      have hl := st_le c i
      have HL : Hid ((st c i).1.length + 1 ≤ 4194304) := by show _ ≤ _; have := hz.out; omega
      clear hb hr a1 a2 a3 hc hg hl hic
      by_cases e91 : Sp.bz c i = 91
      · rw [e91] at ck
        have A4 : Hid ((st c (nx c i)).1 = (st c i).1 ++ [i]) := by show _ = _; rw [A3.out, if_pos e91]
        clear A3 e91
        obtain ⟨v', w', hap, ho, hbw⟩ := app_i 37 i HR.out HB.out.size HL.out
        have HO : Hid _ := ho
        have HBW : Hid (Below w.heap.size w w') := HB.out.trans hbw
        clear ho hbw HB HR
        go_wp2_with (at_builtin; refine wpl_ap rfl rfl rfl rfl hap ?_)
        refine (KN.out i w' HBW.out).mono ?_
        rintro e w2 ⟨rfl, b2⟩
        have B2 : Hid (Below w.heap.size w w2) := HBW.out.trans (b2.mono HBW.out.size)
        have O2 : Hid (Ri w.heap.size ((st c i).1 ++ [i]) v' w2) := Ri_below HO.out b2
        clear b2 HO HBW hap
        go_wp2_with fail
        go_roundw
        case rel => exact ⟨nx c i, A1.out.1, rfl, by rw [A4.out]; exact O2.out, B2.out⟩
        case measure => exact stmI i n _ hlt A1.out.2
      · have ne : ¬ Sp.bz c i = 91 := e91
        have A4 : Hid ((st c (nx c i)).1 = (st c i).1) := by show _ = _; rw [A3.out, if_neg e91]
        clear A3 e91
        generalize Sp.bz c i = X at *
        go_wp2_with fail
        refine (KN.out i wr HB.out).mono ?_
        rintro e w2 ⟨rfl, b2⟩
        have B2 : Hid (Below w.heap.size w w2) := HB.out.trans (b2.mono HB.out.size)
        have O2 : Hid _ := Ri_below HR.out b2
        clear b2 HB HR
        go_wp2_with fail
        go_roundw
        case rel => exact ⟨nx c i, A1.out.1, rfl, by rw [A4.out]; exact O2.out, B2.out⟩
        case measure => exact stmI i n _ hlt A1.out.2
    · have ek : i = n := by have := hat.1; have := hn.out; omega
      subst ek
      have HB : Hid _ := hb
      have HR : Hid _ := hr
      have d0 : ¬ (i : Int) < (i : Int) := by omega
      clear hb hr
      go_wp2_with fail
      go_ret
      exact ⟨_, rfl, HR.out, HB.out⟩
theorem landings_any (c : List UInt8) (n : Nat) (hn : Hid (n = c.length)) (hz : Hid (n ≤ 1048576)) (ao : Option Addr) (cap : Nat) (w : World) (hv : Hid (Sp.Vw c ao w)) : Calls Tryd.prog 17 #[.slice ao n cap] w fun e w' => ∃ v, e = .returned v ∧ Ri w.heap.size (st c n).1 v w' ∧ Below w.heap.size w w' :=
  landings_big c n hn (by show _ ≤ _; have := hz.out; omega) ao cap w hv
end Cd
end Go.Proofs.YtddaajdcoifmoaaDoor
/- code.Disassemble. -/
namespace Go.Proofs.YtddaajdcoifmoaaDoor
namespace Cd
open Go.RowKit
theorem drop_cons (c : List UInt8) (i : Nat) (hi : i < c.length) : c.drop i = c.getD i 0 :: c.drop (i + 1) := by
  rw [List.drop_eq_getElem_cons hi, List.getD_eq_getElem?_getD, List.getElem?_eq_getElem hi]
  rfl
theorem nx_in (c : List UInt8) (i : Nat) (hi : i < c.length) : i < nx c i ∧ nx c i ≤ c.length ∧ nx c i = min (i + 1 + psh (Sp.bz c i)) c.length := by
  have e : nx c i = min (i + 1 + psh (Sp.bz c i)) c.length := by
    unfold nx
    rw [if_neg (by omega), Int.toNat_natCast]
  refine ⟨?_, ?_, e⟩
  · rw [e]; omega
  · rw [e]; exact Nat.min_le_right _ _
/-- What an operation has behind it. -/
def bh (c : List UInt8) (i : Nat) : List UInt8 := (c.drop (i + 1)).take (nx c i - (i + 1))
theorem bh_len (c : List UInt8) (i : Nat) (hi : i < c.length) : (bh c i).length = nx c i - (i + 1) := by
  obtain ⟨h1, h2, _⟩ := nx_in c i hi
  unfold bh
  rw [List.length_take, List.length_drop]
  omega
theorem dis_step (c : List UInt8) (i : Nat) (hi : i < c.length) : dis (c.drop i) = ln (Sp.bz c i).toNat (bh c i) :: dis (c.drop (nx c i)) := by
  obtain ⟨h1, h2, h3⟩ := nx_in c i hi
  have eb : Sp.bz c i = ((c.getD i 0).toNat : Int) := rfl
  rw [drop_cons c i hi, dis_cons, ← eb, eb, Int.toNat_natCast, ← eb]
  congr 1
  · congr 1
    unfold bh
    rw [h3]
    rcases Nat.le_total (i + 1 + psh (Sp.bz c i)) c.length with h | h
    · rw [Nat.min_eq_left h]
      congr 1
      omega
    · rw [Nat.min_eq_right h, List.take_of_length_le (by rw [List.length_drop]; omega), List.take_of_length_le (by rw [List.length_drop]; omega)]
  · congr 1
    rw [List.drop_drop, h3]
    rcases Nat.le_total (i + 1 + psh (Sp.bz c i)) c.length with h | h
    · rw [Nat.min_eq_left h]
    · rw [Nat.min_eq_right h, List.drop_eq_nil_of_le h, List.drop_eq_nil_of_le (Nat.le_refl _)]
theorem bh_sl (c : List UInt8) (i : Nat) (hi : i < c.length) (g off k : Nat) (W : World) (hg : g < W.heap.size) (hc : ∀ j, j < c.length → W.cell? ⟨g, off + j, none⟩ = some (.int .u8 (Sp.bz c j))) (hk : nx c i - (i + 1) ≤ k) : Sl (bh c i) (.slice (some ⟨g, off + (i + 1), none⟩) (nx c i - (i + 1)) k) W := by
  obtain ⟨h1, h2, _⟩ := nx_in c i hi
  have hl := bh_len c i hi
  refine ⟨_, k, by rw [hl], by rw [hl]; exact hk, fun _ => ⟨g, off + (i + 1), rfl, hg, fun j hj => ?_⟩⟩
  rw [hl] at hj
  rw [Nat.add_assoc, hc (i + 1 + j) (by omega)]
  have e : Sp.bz (bh c i) j = Sp.bz c (i + 1 + j) := by
    unfold Sp.bz bh
    rw [List.getD_eq_getElem?_getD, List.getD_eq_getElem?_getD, List.getElem?_take, if_pos hj, List.getElem?_drop]
  rw [e]
set_option maxHeartbeats 2000000 in
set_option maxRecDepth 100000 in
theorem dis_big (c : List UInt8) (n : Nat) (hn : Hid (n = c.length)) (hz : Hid (n ≤ 2097152)) (ao : Option Addr) (cap : Nat) (hcap : Hid (n ≤ cap)) (w : World) (hv : Hid (Sp.Vw c ao w)) : Calls Tryd.prog 13 #[.slice ao n cap] w fun e w' => ∃ v, e = .returned v ∧ Rg w.heap.size (dis c) v w' ∧ Below w.heap.size w w' := by
  have KN : Hid (∀ (i : Nat) (W : World), Below w.heap.size w W → Calls Tryd.prog 16 #[.slice ao n cap, .int .i64 (i : Int)] W fun e w' => e = .returned (.int .i64 (nx c i : Int)) ∧ Below W.heap.size W w') := fun i W hb => next_any c n hn (by show _ ≤ _; have := hz.out; omega) ao cap i W (Sp.Vw_below hv.out hb)
  go_enter Tryd.func13, Tryd.ntmps13
  go_wp2_with fail
  go_loopw [3, 4, 5] (fun v p _ wr => ∃ (i : Nat) (L : List (List UInt8)), i ≤ n ∧ p = .int .i64 (i : Int) ∧ L.length ≤ i ∧ dis c = L ++ dis (c.drop i) ∧ Rg w.heap.size L v wr ∧ Below w.heap.size w wr) (fun _ p _ _ => ((n : Int) - intOf p).toNat)
  case atStart => exact ⟨0, [], Nat.zero_le _, rfl, Nat.le_refl _, rfl, World.ownsRow_nil _ _ _ _, Below.refl _ _⟩
  case round =>
    obtain ⟨i, L, hi, rfl, hL, hd, hr, hb⟩ := hrel
    by_cases hlt : i < n
    · have d0 : (0 : Int) ≤ (i : Int) := by omega
      have d1 : (i : Int) < (n : Int) := by omega
      have hic : i < c.length := by rw [← hn.out]; exact hlt
      obtain ⟨n1, n2, _⟩ := nx_in c i hic
      obtain ⟨g, off, rfl, hg, hc⟩ := hv.out (by omega)
      have CK : Hid (∀ j, j < c.length → wr.cell? ⟨g, off + j, none⟩ = some (.int .u8 (Sp.bz c j))) := fun j hj => (hb.cell (p := ⟨g, off + j, none⟩) hg).trans (hc j hj)
      have HB : Hid _ := hb
      have HR : Hid _ := hr
      have HG : Hid (g < wr.heap.size) := Nat.lt_of_lt_of_le hg hb.size
      have HD : Hid (dis c = (L ++ [ln (Sp.bz c i).toNat (bh c i)]) ++ dis (c.drop (nx c i))) := by
        show _ = _
        rw [hd, dis_step c i hic, List.append_assoc]
        rfl
      have HL : Hid (L.length + 1 ≤ 4194304) := by show _ ≤ _; have := hz.out; omega
      have HI : Hid (i < nx c i ∧ nx c i ≤ n ∧ L.length ≤ i) := ⟨n1, by rw [hn.out]; exact n2, hL⟩
      obtain ⟨q, hq⟩ : ∃ q : Nat, Hid (q = nx c i) := ⟨_, rfl⟩
      have q1 : i + 1 ≤ q := by rw [hq.out]; exact n1
      have q2 : q ≤ n := by rw [hq.out, hn.out]; exact n2
      have bb := bz_in c i
      obtain ⟨x, hx⟩ : ∃ x : Nat, Hid (x = (Sp.bz c i).toNat) := ⟨_, rfl⟩
      have ex : Sp.bz c i = (x : Int) := by rw [hx.out, Int.toNat_of_nonneg bb.1]
      obtain ⟨r, hr1⟩ : ∃ r : Nat, Hid (r = i + 1) := ⟨_, rfl⟩
      obtain ⟨A, hA⟩ : ∃ A : Option Addr, (if cap = r then some (⟨g, off, none⟩ : Addr) else some ⟨g, off + r, none⟩) = A := ⟨_, rfl⟩
      have KL : Hid (∀ W : World, Below wr.heap.size wr W → Calls Tryd.prog 32 #[.agg #[.int .u8 (x : Int), .slice A (q - r) (cap - r)]] W fun e w' => e = .returned (.string (sb (ln x (bh c i)))) ∧ Below W.heap.size W w') := fun W hW => by
        have hs := bh_sl c i hic g off (cap - (i + 1)) W (Nat.lt_of_lt_of_le HG.out hW.size) (fun j hj => (hW.cell (p := ⟨g, off + j, none⟩) HG.out).trans (CK.out j hj)) (by have := hcap.out; have := hq.out; omega)
        rw [← hq.out, ← hr1.out] at hs
        have hs2 : Sl (bh c i) (.slice A (q - r) (cap - r)) W := by
          rw [← hA]
          split
          · have e0 : bh c i = [] := List.length_eq_zero_iff.1 (by rw [bh_len c i hic, ← hq.out]; have := hcap.out; have := hr1.out; omega)
            rw [e0, show q - r = 0 by have := hcap.out; have := hr1.out; omega]
            exact ⟨_, _, rfl, Nat.zero_le _, Sp.Vw_nil _ _⟩
          · exact hs
        exact line_any x (by rw [hx.out]; omega) (bh c i) (by show _ ≤ _; rw [bh_len c i hic]; have h1 := psh_le (Sp.bz c i); obtain ⟨_, _, h2⟩ := nx_in c i hic; omega) _ _ _ W hs2
      have ck := CK.out i hic
      rw [ex] at ck
      rw [← hx.out] at HD
      have CKI : Hid _ := ck
      have hw : Hid (IntKind.i64.wrap ((i : Int) + 1) = (r : Int)) := by show _ = _; rw [IntKind.wrap_i64]; have := hz.out; have := hr1.out; omega
      have KNi := KN.out i wr HB.out
      rw [← hq.out] at KNi HI HD
      have KNi : Hid (Calls Tryd.prog 16 #[.slice (some ⟨g, off, none⟩) n cap, .int .i64 (i : Int)] wr fun e w' => e = .returned (.int .i64 (q : Int)) ∧ Below wr.heap.size wr w') := KNi
      have e1 : (r : Int) ≤ (q : Int) := by have := hr1.out; omega
      have e1' : r ≤ q := by have := hr1.out; omega
      have e2 : (q : Int) ≤ (cap : Int) := by have := hcap.out; omega
      have e2' : q ≤ cap := by have := hcap.out; omega
      generalize ln x (bh c i) = S at *
      clear hr hb hL hd hc hg hic n1 n2 bb ck CK hq ex q1 q2 hr1
      go_wp2_with fail
      refine KNi.out.mono ?_
      rintro e w2 ⟨rfl, b2⟩
      have B2 : Hid (Below wr.heap.size wr w2) := b2
      clear b2 KNi
      have hL : RG.Lasts (fun wx => Below wr.heap.size wr wx) (fun _ v wx => ∃ g3, v = .slice (some ⟨g3, 0, none⟩) 1 1 ∧ g3 < wx.heap.size ∧ wx.cell? ⟨g3, 0, none⟩ = some (.string (sb S))) := ⟨fun _ _ h hb => h.trans (hb.mono h.size), fun j _ _ _ h hb => by
        obtain ⟨g3, rfl, h1, h2⟩ := h
        exact ⟨g3, rfl, Nat.lt_of_lt_of_le h1 hb.size, (hb.cell (p := ⟨g3, 0, none⟩) h1).trans h2⟩⟩
      have hw := hw.out
      go_upto_region 5 with fail
      refine RG.wp_region_gen (fun wx => Below wr.heap.size wr wx) (fun _ v wx => ∃ g3, v = .slice (some ⟨g3, 0, none⟩) 1 1 ∧ g3 < wx.heap.size ∧ wx.cell? ⟨g3, 0, none⟩ = some (.string (sb S))) (fun _ _ => True) [0, 0, 0, 0, 0, 0, 0, 0, 0, 0, 0, 0, 1, 2, 2] (by kernel_rfl) (by kernel_rfl) (B2.out.drew) ?_
      dsimp only [List.toList_toArray]
      refine RG.go1 (v := ?_) (a' := ?_) hL (by decide) rfl ?_ ?_ ?_
      rotate_left 2
      · intro K wx hS hK
        go_simp
        exact hK _ (Below.refl _ _)
      · simp only [Act.put, List.setIfInBounds_toArray, List.set_cons_succ, List.set_cons_zero]
        rfl
      refine RG.go1 (v := ?_) (a' := ?_) hL (by decide) rfl ?_ ?_ ?_
      rotate_left 2
      · intro K wx hS hK
        go_simp
        exact hK _ (Below.refl _ _)
      · simp only [Act.put, List.setIfInBounds_toArray, List.set_cons_succ, List.set_cons_zero]
        rfl
      refine RG.go1 (v := ?_) (a' := ?_) hL (by decide) rfl ?_ ?_ ?_
      rotate_left 2
      · intro K wx hS hK
        go_simp
        exact hK _ (Below.refl _ _)
      · simp only [Act.put, List.setIfInBounds_toArray, List.set_cons_succ, List.set_cons_zero]
        rfl
      refine RG.go1 (v := ?_) (a' := ?_) hL (by decide) rfl ?_ ?_ ?_
      rotate_left 2
      · intro K wx hS hK
        go_simp
        exact hK _ (Below.refl _ _)
      · simp only [Act.put, List.setIfInBounds_toArray, List.set_cons_succ, List.set_cons_zero]
        rfl
      refine RG.go1 (v := ?_) (a' := ?_) hL (by decide) rfl ?_ ?_ ?_
      rotate_left 2
      · intro K wx hS hK
        have x0 := (hS.cell (p := ⟨g, off + i, none⟩) HG.out).trans CKI.out
        go_simp
        exact hK _ (Below.refl _ _)
      · simp only [Act.put, List.setIfInBounds_toArray, List.set_cons_succ, List.set_cons_zero]
        rfl
      refine RG.go1 (v := ?_) (a' := ?_) hL (by decide) rfl ?_ ?_ ?_
      rotate_left 2
      · intro K wx hS hK
        go_simp
        exact hK _ (Below.refl _ _)
      · simp only [Act.put, List.setIfInBounds_toArray, List.set_cons_succ, List.set_cons_zero]
        rfl
      refine RG.go1 (v := ?_) (a' := ?_) hL (by decide) rfl ?_ ?_ ?_
      rotate_left 2
      · intro K wx hS hK
        go_simp
        exact hK _ (Below.refl _ _)
      · simp only [Act.put, List.setIfInBounds_toArray, List.set_cons_succ, List.set_cons_zero]
        rfl
      refine RG.go1 (v := ?_) (a' := ?_) hL (by decide) rfl ?_ ?_ ?_
      rotate_left 2
      · intro K wx hS hK
        go_simp
        exact hK _ (Below.refl _ _)
      · simp only [Act.put, List.setIfInBounds_toArray, List.set_cons_succ, List.set_cons_zero]
        rfl
      refine RG.go1 (v := ?_) (a' := ?_) hL (by decide) rfl ?_ ?_ ?_
      rotate_left 2
      · intro K wx hS hK
        go_simp
        exact hK _ (Below.refl _ _)
      · simp only [Act.put, List.setIfInBounds_toArray, List.set_cons_succ, List.set_cons_zero]
        rfl
      refine RG.go1 (v := ?_) (a' := ?_) hL (by decide) rfl ?_ ?_ ?_
      rotate_left 2
      · intro K wx hS hK
        go_simp
        exact hK _ (Below.refl _ _)
      · simp only [Act.put, List.setIfInBounds_toArray, List.set_cons_succ, List.set_cons_zero]
        rfl
      refine RG.go1 (v := ?_) (a' := ?_) hL (by decide) rfl ?_ ?_ ?_
      rotate_left 2
      · intro K wx hS hK
        go_simp
        exact hK _ (Below.refl _ _)
      · simp only [Act.put, List.setIfInBounds_toArray, List.set_cons_succ, List.set_cons_zero]
        rfl
      refine RG.go1 (v := ?_) (a' := ?_) hL (by decide) rfl ?_ ?_ ?_
      rotate_left 2
      · intro K wx hS hK
        go_simp
        refine (KL.out _ hS).mono (fun e w2 he => ?_)
        refine ⟨_, he.1, ?_⟩
        exact hK _ he.2
      · simp only [Act.put, List.setIfInBounds_toArray, List.set_cons_succ, List.set_cons_zero]
        rfl
      refine RG.goN hL rfl ?_ ?_
      · intro K wx hS hK
        go_simp
        exact hK _ _ ((Below.refl _ _).alloc (Nat.le_refl _) _) ⟨wx.heap.size, rfl, by simp, by simp⟩ (fun _ _ _ => ⟨trivial, trivial⟩)
      refine RG.goT ?_
      refine RG.goT ?_
      refine RG.go_end ?_
      intro U w9 m9 y9 x9
      simp +decide (maxSteps := 1000000) only [RG.tl, RG.putN, ↓reduceIte, Act.put, List.setIfInBounds_toArray, List.set_cons_succ, List.set_cons_zero, Nat.reduceAdd]
      obtain ⟨g3, hU, h1, h2⟩ := y9 12 rfl
      simp only [hU]
      have M9 : Hid (Below wr.heap.size wr w9) := m9
      have BW : Hid (Below w.heap.size w w9) := HB.out.trans (m9.mono HB.out.size)
      obtain ⟨v', w', hap, ho, hbw⟩ := app_s 25 S g3 (Rg_below HR.out M9.out) BW.out.size h2 HL.out
      have HO : Hid _ := ho
      have HBW : Hid (Below w.heap.size w w') := BW.out.trans hbw
      clear y9 x9 hU hL m9 h1 h2 ho hbw M9 BW HB HR B2 KL CKI KN
      refine wpl_ap rfl rfl rfl rfl hap ?_
      simp only [Act.put, List.setIfInBounds_toArray, List.set_cons_succ, List.set_cons_zero]
      go_wp2_with fail
      go_roundw
      case rel => exact ⟨q, L ++ [S], HI.out.2.1, rfl, by have := HI.out; simp; omega, HD.out, HO.out, HBW.out⟩
      case measure => exact stmI i n _ hlt HI.out.1
    · have ek : i = n := by omega
      subst ek
      have HR : Hid (Rg w.heap.size (dis c) u3 wr) := by
        rw [hd, List.drop_eq_nil_of_le (by rw [← hn.out]; exact Nat.le_refl _), dis_nil, List.append_nil]
        exact hr
      have HB : Hid _ := hb
      have d0 : ¬ (i : Int) < (i : Int) := by omega
      clear hr hb hd hL
      go_wp2_with fail
      go_ret
      exact ⟨_, rfl, HR.out, HB.out⟩
theorem dis_any (c : List UInt8) (n : Nat) (hn : Hid (n = c.length)) (hz : Hid (n ≤ 1048576)) (ao : Option Addr) (cap : Nat) (hcap : Hid (n ≤ cap)) (w : World) (hv : Hid (Sp.Vw c ao w)) : Calls Tryd.prog 13 #[.slice ao n cap] w fun e w' => ∃ v, e = .returned v ∧ Rg w.heap.size (dis c) v w' ∧ Below w.heap.size w w' :=
  dis_big c n hn (by show _ ≤ _; have := hz.out; omega) ao cap hcap w hv
end Cd
end Go.Proofs.YtddaajdcoifmoaaDoor
/- code.Assemble. -/
namespace Go.Proofs.YtddaajdcoifmoaaDoor
namespace Cd
open Go.RowKit Go.Maps RI RH
theorem ap_up4 {P : Program} {K : Value → World → Prop} {a : Act} {o : Oper} {s x : Operand} {t : TypeId} {v v2 v' : Value} {w w' : World} (ho : o.op = .call { callee := .builtin .append, args := #[s, x], argTypes := #[t, t] }) (hs : a.eval s = v) (hx : a.eval x = v2)
    (hr : (Builtin.append_ #[t, t] o.type #[v, v2]).run P w = .ok v' w') (hK : K v' w') : RS.upv P K ((execOp a.eval o).run P w) := by
  unfold execOp
  simp only [ho, resolve, invoke, builtin, Sem.run_bind, Sem.run_pure, Result.andThen_ok, List.map_toArray, List.map_cons, List.map_nil, hs, hx, hr]
  exact hK
/-- A slice of strings that is read. -/
def Vg (ls : List (List UInt8)) (ao : Option Addr) (w : World) : Prop := 0 < ls.length → ∃ g off, ao = some ⟨g, off, none⟩ ∧ g < w.heap.size ∧ ∀ j, j < ls.length → w.cell? ⟨g, off + j, none⟩ = some (.string (sb (ls.getD j [])))
theorem Vg_below {ls : List (List UInt8)} {ao : Option Addr} {w w' : World} (h : Vg ls ao w) (hb : Below w.heap.size w w') : Vg ls ao w' := fun h0 => by
  obtain ⟨g, off, e, hg, hc⟩ := h h0
  exact ⟨g, off, e, Nat.lt_of_lt_of_le hg hb.size, fun j hj => (hb.cell (p := ⟨g, off + j, none⟩) hg).trans (hc j hj)⟩
theorem Rg_vg {B : Nat} {ls : List (List UInt8)} {v : Value} {w : World} (h : Rg B ls v w) : ∃ ao cap, v = .slice ao ls.length cap ∧ ls.length ≤ cap ∧ Vg ls ao w := by
  rcases h.2 with ⟨h3, h4⟩ | ⟨g, cap, cur, h3, h5⟩
  · exact ⟨none, 0, by rw [h3, h4], by omega, fun h0 => by omega⟩
  · have h6 := h
    subst h3
    refine ⟨_, cap, rfl, h5.2.2.1, fun h0 => ⟨g, 0, rfl, Pk.lt_of_heap h5.2.1, fun j hj => ?_⟩⟩
    rw [Nat.zero_add, h6.cellAt j (by omega)]
    simp [scs, hj]
/-- How many bytes lines come to. -/
def pl : List (List UInt8) → Nat
  | [] => 0
  | l :: r => (match rdl l with
    | some (_, b) => 1 + b.length
    | none => 0) + pl r
theorem pl_dis : ∀ (n : Nat) (c : List UInt8), c.length ≤ n → pl (dis c) = c.length
  | _, [], _ => by rw [dis_nil]; rfl
  | 0, x :: r, h => by simp at h
  | n + 1, x :: r, h => by
    rw [dis_cons, pl, rdl_ln x.toNat x.toNat_lt _ (by rw [List.length_take]; omega)]
    dsimp only
    rw [pl_dis n _ (by rw [List.length_drop]; simp at h; omega), List.length_take, List.length_drop]
    show 1 + min (psh (x.toNat : Int)) r.length + (r.length - psh (x.toNat : Int)) = r.length + 1
    rcases Nat.le_total (psh (x.toNat : Int)) r.length with k | k
    · rw [Nat.min_eq_left k]; omega
    · rw [Nat.min_eq_right k]; omega
theorem gd_drop (ls : List (List UInt8)) (i : Nat) (hi : i < ls.length) : ls.drop i = ls.getD i [] :: ls.drop (i + 1) := by
  rw [List.drop_eq_getElem_cons hi, List.getD_eq_getElem?_getD, List.getElem?_eq_getElem hi]
  rfl
theorem stmW (i n : Nat) (h : i < n) (hn : n ≤ 4194304) : Hid (((n : Int) - intOf (.int .i64 (wrap64 ((i : Int) + 1)))).toNat < ((n : Int) - intOf (.int .i64 (i : Int))).toNat) := by
  rw [(stwI i n h hn).out]
  show ((n : Int) - ((i : Int) + 1)).toNat < ((n : Int) - (i : Int)).toNat
  omega
/-- What Assemble answers. -/
def AS (r : Option (List UInt8)) (w : World) (e : Ending) (w' : World) : Prop := ∃ (v : Value) (k : Int), e = .returned (.tuple #[v, .int .i64 k]) ∧ (∀ C, r = some C → k = 0 ∧ Rb w.heap.size C v w') ∧ (r = none → k = 1 ∧ v = .slice none 0 0) ∧ Below w.heap.size w w'
set_option maxHeartbeats 4000000 in
set_option maxRecDepth 100000 in
theorem asm_any (ls : List (List UInt8)) (n : Nat) (hn : Hid (n = ls.length)) (hz : Hid (n ≤ 1048576 ∧ pl ls ≤ 4194304)) (hl : Hid (∀ l, l ∈ ls → l.length ≤ 2097154)) (ao : Option Addr) (cap : Nat) (w : World) (hv : Hid (Vg ls ao w)) : Calls Tryd.prog 10 #[.slice ao n cap] w (AS (asm ls) w) := by
  obtain ⟨R, hR⟩ : ∃ R, Hid (R = asm ls) := ⟨_, rfl⟩
  rw [← hR.out]
  go_enter Tryd.func10, Tryd.ntmps10
  go_wp2_with fail
  refine (ops_any w).mono ?_
  rintro e wA ⟨bm, rfl, omA, bA⟩
  have OA : Hid (Om bm wA ∧ Below w.heap.size w wA) := ⟨omA, bA⟩
  clear omA bA
  go_wp2_with fail
  go_loopw [4, 13] (fun v p wr => ∃ (i : Nat) (C : List UInt8), i ≤ n ∧ p = .int .i64 (i : Int) ∧ asm ls = (asm (ls.drop i)).map (C ++ ·) ∧ C.length + pl (ls.drop i) ≤ 4194304 ∧ Rb w.heap.size C v wr ∧ Om bm wr ∧ Below w.heap.size w wr) (fun _ p _ => ((n : Int) - intOf p).toNat)
  case atStart => exact ⟨0, [], Nat.zero_le _, rfl, by simp, by simpa using hz.out.2, Rb_nil _ _, OA.out.1, OA.out.2⟩
  case round =>
    obtain ⟨i, C, hi, rfl, ha, hp, hr, hm, hb⟩ := hrel
    by_cases hlt : i < n
    · have d0 : (0 : Int) ≤ (i : Int) := by omega
      have d1 : (i : Int) < (n : Int) := by omega
      have hil : i < ls.length := by rw [← hn.out]; exact hlt
      obtain ⟨g, off, rfl, hg, hc⟩ := hv.out (by omega)
      have cl := (hb.cell (p := ⟨g, off + i, none⟩) hg).trans (hc i hil)
      have HD : Hid (ls.drop i = ls.getD i [] :: ls.drop (i + 1)) := gd_drop ls i hil
      obtain ⟨l, hll⟩ : ∃ l, Hid (l = ls.getD i []) := ⟨_, rfl⟩
      rw [← hll.out] at cl HD
      have KL : Hid (∀ W : World, Below wr.heap.size wr W → Calls Tryd.prog 28 #[.string (sb l), .map (some bm)] W (RL (rdl l) W)) := fun W hW => line_read l (by show _ ≤ _; rw [hll.out, List.getD_eq_getElem?_getD, List.getElem?_eq_getElem hil]; exact hl.out _ (List.getElem_mem hil)) bm W (Om_below hm hW)
      have HA : Hid _ := ha
      have HP : Hid _ := hp
      have HR : Hid _ := hr
      have HM : Hid (Om bm wr) := hm
      have HB : Hid (Below w.heap.size w wr) := hb
      clear hb hr hm hc hg ha hp
      go_wp2_with fail
      refine (KL.out wr (Below.refl _ _)).mono ?_
      rintro e w1 ⟨y, bo, m, bc, rfl, hr1, b1⟩
      have R1 : Hid (Rb w.heap.size C u4 w1) := Rb_below HR.out b1
      have M1 : Hid (Om bm w1) := Om_below HM.out b1
      have B1 : Hid (Below w.heap.size w w1) := HB.out.trans (b1.mono HB.out.size)
      have Z1 : Hid (wr.heap.size ≤ w1.heap.size) := b1.size
      have HV : Hid (∀ g, u4.ownBlock = some g → g < wr.heap.size) := fun g hg => (Rb_lt HR.out g hg).2
      have HW : Hid (w.heap.size ≤ wr.heap.size) := HB.out.size
      clear b1 HR HM HB KL
      cases hrd : rdl l with
      | none =>
        have e1 : Hid (R = none) := by
          show _ = _
          rw [hR.out, HA.out, HD.out, asm, hrd]
          rfl
        clear hr1 HP HA HD hrd
        go_wp2_with fail
        go_ret2
        rw [e1.out]
        exact ⟨_, _, rfl, fun C h => (by cases h), fun _ => ⟨rfl, rfl⟩, B1.out.trans (((Below.refl _ _).alloc (Nat.le_refl _) _).mono B1.out.size)⟩
      | some q =>
        obtain ⟨x, b⟩ := q
        obtain ⟨e1, e2, sn⟩ := hr1 x b hrd
        subst e1
        obtain ⟨hx, hbl, _⟩ := rdl_some hrd
        have hD : asm (ls.drop i) = if b.length < psh (x : Int) ∧ ls.drop (i + 1) ≠ [] then none else (asm (ls.drop (i + 1))).map fun c => UInt8.ofNat x :: (b ++ c) := by rw [HD.out, asm, hrd]
        have hP : C.length + (1 + b.length + pl (ls.drop (i + 1))) ≤ 4194304 := by
          have := HP.out
          rw [HD.out, pl, hrd] at this
          exact this
        have hne : ls.drop (i + 1) ≠ [] ↔ i + 1 < n := by
          rw [hn.out]
          constructor
          · intro h
            exact Classical.byContradiction fun h2 => h (List.drop_eq_nil_of_le (by omega))
          · intro h e
            have := congrArg List.length e
            rw [List.length_drop] at this
            simp at this
            omega
        have bA : Below w1.heap.size w1 (w1.alloc (.cells #[.int .u8 (x : Int), .slice bo m bc] 47)) := (Below.refl _ _).alloc (Nat.le_refl _) _
        have cA0 : (w1.alloc (.cells #[.int .u8 (x : Int), .slice bo m bc] 47)).cell? ⟨w1.heap.size, 0, none⟩ = some (.int .u8 (x : Int)) := by simp
        have cA1 : (w1.alloc (.cells #[.int .u8 (x : Int), .slice bo m bc] 47)).cell? ⟨w1.heap.size, 1, none⟩ = some (.slice bo m bc) := by simp
        have zA : w1.heap.size < (w1.alloc (.cells #[.int .u8 (x : Int), .slice bo m bc] 47)).heap.size := by simp
        have KS : Hid (∀ W : World, Calls Tryd.prog 29 #[.agg #[.int .u8 (x : Int), .slice bo m bc]] W fun e w' => e = .returned (.bool (decide (m < psh (x : Int)))) ∧ Below W.heap.size W w') := fun W => short_any x hx bo m bc W
        have SN : Hid (Sn wr.heap.size b bo bc w1) := sn
        have HMB : Hid (m = b.length) := e2
        have wn : wrap64 ((n : Int) - 1) = (n : Int) - 1 := by have := hz.out.1; unfold wrap64; omega
        rw [← e2] at hD hP
        clear hr1 HP HD hrd sn e2 hbl
        generalize psh (x : Int) = P at *
        by_cases hs : m < P
        · have hs1 : decide (m < P) = true := decide_eq_true hs
          rw [hs1] at KS
          by_cases hq : i + 1 < n
          · have e1 : Hid (R = none) := by
              show _ = _
              rw [hR.out, HA.out, hD, if_pos ⟨hs, hne.2 hq⟩]
              rfl
            have q1 : (i : Int) < (n : Int) - 1 := by omega
            clear hD hP hne HA hs hs1
            go_wp2_with fail
            generalize w1.alloc (.cells #[.int .u8 (x : Int), .slice bo m bc] 47) = WA at *
            refine (KS.out WA).mono ?_
            rintro e w2 ⟨rfl, b2⟩
            have B2 : Hid (Below w.heap.size w w2) := B1.out.trans ((bA.trans (b2.mono bA.size)).mono B1.out.size)
            clear bA b2 B1 KS R1 M1 cA0 cA1 zA
            go_wp2_with fail
            go_ret2
            rw [e1.out]
            exact ⟨_, _, rfl, fun C h => (by cases h), fun _ => ⟨rfl, rfl⟩, B2.out⟩
          · have HA2 : Hid (asm ls = (asm (ls.drop (i + 1))).map ((C ++ [UInt8.ofNat x] ++ b) ++ ·)) := by
              show _ = _
              rw [HA.out, hD, if_neg (fun h => hq (hne.1 h.2)), Option.map_map]
              congr 1
              funext c
              simp
            have q1 : ¬ (i : Int) < (n : Int) - 1 := by omega
            have q2 : decide ((i : Int) < (n : Int) - 1) = false := decide_eq_false q1
            clear hD hne HA hs hs1
            go_wp2_with fail
            generalize w1.alloc (.cells #[.int .u8 (x : Int), .slice bo m bc] 47) = WA at *
            refine (KS.out WA).mono ?_
            rintro e w2 ⟨rfl, b2⟩
            have b02 := (bA.trans (b2.mono bA.size))
            have B2 : Hid (Below w.heap.size w w2) := B1.out.trans (b02.mono B1.out.size)
            have R2 : Hid (Rb w.heap.size C u4 w2) := Rb_below R1.out b02
            have M2 : Hid (Om bm w2) := Om_below M1.out b02
            have S2 : Hid (Sn wr.heap.size b bo bc w2) := Sn_below SN.out b02
            have D0 : Hid (w2.cell? ⟨w1.heap.size, 0, none⟩ = some (.int .u8 (x : Int)) ∧ w2.cell? ⟨w1.heap.size, 1, none⟩ = some (.slice bo m bc)) := ⟨(b2.cell (p := ⟨w1.heap.size, 0, none⟩) zA).trans cA0, (b2.cell (p := ⟨w1.heap.size, 1, none⟩) zA).trans cA1⟩
            have HH : Hid (wr.heap.size ≤ w1.heap.size ∧ w1.heap.size < w2.heap.size) := ⟨Z1.out, Nat.lt_of_lt_of_le zA b2.size⟩
            generalize w1.heap.size = h at D0 HH ⊢
            clear bA b2 b02 B1 KS R1 M1 cA0 cA1 zA SN
            obtain ⟨y, hy⟩ : ∃ y : UInt8, Hid (y = UInt8.ofNat x) := ⟨_, rfl⟩
            have hyx : (y.toNat : Int) = (x : Int) := by rw [hy.out]; simp; omega
            rw [← hy.out] at HA2
            rw [← hyx] at D0 ⊢
            clear hyx
            have hlen : C.length + 1 + m ≤ 4194304 := by omega
            rw [HMB.out] at D0 hlen ⊢
            go_upto_region 9 with fail
            refine RH.wp_region_genI (J9 w.heap.size wr.heap.size bm h w C y u4 b bo bc) [0, 0, 0, 1, 1, 0, 0, 1, 2] (by kernel_rfl) (by kernel_rfl) ((J9.start B2.out.drew ⟨Nat.le_trans HH.out.1 (Nat.le_of_lt HH.out.2), HH.out.2⟩ M2.out R2.out D0.out.1 D0.out.2 S2.out)) ?_
            dsimp only [List.toList_toArray]
            refine RH.goD (v := ?_) (f' := ?_) rfl ?_ ?_ ?_
            rotate_left 2
            · intro U K d wx hI hmay hK
              go_simp
              exact hK _ (J9.keep (by decide) hI)
            · intro U
              simp only [Act.put, List.setIfInBounds_toArray, List.set_cons_succ, List.set_cons_zero]
              rfl
            refine RH.goD (v := ?_) (f' := ?_) rfl ?_ ?_ ?_
            rotate_left 2
            · intro U K d wx hI hmay hK
              go_simp
              exact hK _ (J9.keep (by decide) hI)
            · intro U
              simp only [Act.put, List.setIfInBounds_toArray, List.set_cons_succ, List.set_cons_zero]
              rfl
            refine RH.goD (v := ?_) (f' := ?_) rfl ?_ ?_ ?_
            rotate_left 2
            · intro U K d wx hI hmay hK
              have h2 := hmay.1
              have x0 := (hI.bx (hI.n7 (.inr (.inl h2)))).1
              go_simp
              exact hK _ (J9.keep (by decide) hI)
            · intro U
              simp only [Act.put, List.setIfInBounds_toArray, List.set_cons_succ, List.set_cons_zero]
              rfl
            refine RH.goN (f' := ?_) rfl ?_ ?_ ?_
            rotate_left 1
            · intro U K d wx hI hmay hK
              have h3 := hmay.1
              have hd := hmay.2 _ rfl
              simp [Region.binds] at hd
              go_simp
              exact hK _ _ (hI.step3 h3 (by simp [hd]) HW.out)
            · intro U
              simp only [Act.put, List.setIfInBounds_toArray, List.set_cons_succ, List.set_cons_zero]
              rfl
            refine RH.goN (f' := ?_) rfl ?_ ?_ ?_
            rotate_left 1
            · intro U K d wx hI hmay hK
              have h4 := hmay.1
              have hd := hmay.2 _ rfl
              simp [Region.binds] at hd
              obtain ⟨v', w', ha4, hj⟩ := hI.step4 h4 (by simp [hd]) HW.out HV.out HH.out.1 (by omega) 24
              refine ap_up4 rfl rfl rfl ha4 ?_
              exact hK _ _ hj
            · intro U
              simp only [Act.put, List.setIfInBounds_toArray, List.set_cons_succ, List.set_cons_zero]
              rfl
            refine RH.goD (v := ?_) (f' := ?_) rfl ?_ ?_ ?_
            rotate_left 2
            · intro U K d wx hI hmay hK
              go_simp
              exact hK _ (J9.keep (by decide) hI)
            · intro U
              simp only [Act.put, List.setIfInBounds_toArray, List.set_cons_succ, List.set_cons_zero]
              rfl
            refine RH.goD (v := ?_) (f' := ?_) rfl ?_ ?_ ?_
            rotate_left 2
            · intro U K d wx hI hmay hK
              have h6 := hmay.1
              have x1 := (hI.bx (hI.n7 (.inl h6))).2.1
              go_simp
              exact hK _ (J9.keep (by decide) hI)
            · intro U
              simp only [Act.put, List.setIfInBounds_toArray, List.set_cons_succ, List.set_cons_zero]
              rfl
            refine RH.goN (f' := ?_) rfl ?_ ?_ ?_
            rotate_left 1
            · intro U K d wx hI hmay hK
              have h7 := hmay.1
              have hd := hmay.2 _ rfl
              simp [Region.binds] at hd
              obtain ⟨v', w', ha7, hj⟩ := hI.step7 h7 (by simp [hd]) (by simp [hd]) HW.out hlen 24
              refine ap_up4 rfl rfl rfl ha7 ?_
              exact hK _ _ hj
            · intro U
              simp only [Act.put, List.setIfInBounds_toArray, List.set_cons_succ, List.set_cons_zero]
              rfl
            refine RH.goT ?_
            refine RH.go_end ?_
            intro dd U w9 h9 hall
            simp +decide only [RH.tl, if_true, if_false]
            obtain ⟨r7⟩ : Nonempty (Rb w.heap.size (C ++ [y] ++ b) (U 7) w9) := ⟨h9.u7 (hall 7 (by decide))⟩
            have R9 : Hid (Rb w.heap.size (C ++ [y] ++ b) (U 7) w9) := r7
            have M9 : Hid (Om bm w9) := h9.om
            have B9 : Hid (Below w.heap.size w w9) := h9.bel
            clear h9 hall r7 R2 M2 B2 S2 D0
            generalize U 3 = V3
            generalize U 4 = V4
            generalize U 7 = V7 at *
            have hw := stwI i n hlt (by have := hz.out.1; omega)
            have hm2 := stmW i n hlt (by have := hz.out.1; omega)
            go_wp2_with fail
            go_roundw
            case rel => exact ⟨i + 1, C ++ [y] ++ b, hlt, by rw [hw.out]; rfl, HA2.out, by have := hP; have := HMB.out; simp; omega, R9.out, M9.out, B9.out⟩
            case measure => exact hm2.out
        · have hs1 : decide (m < P) = false := decide_eq_false hs
          rw [hs1] at KS
          have HA2 : Hid (asm ls = (asm (ls.drop (i + 1))).map ((C ++ [UInt8.ofNat x] ++ b) ++ ·)) := by
            show _ = _
            rw [HA.out, hD, if_neg (fun h => hs h.1), Option.map_map]
            congr 1
            funext c
            simp
          clear hD hne HA hs hs1
          go_wp2_with fail
          generalize w1.alloc (.cells #[.int .u8 (x : Int), .slice bo m bc] 47) = WA at *
          refine (KS.out WA).mono ?_
          rintro e w2 ⟨rfl, b2⟩
          have b02 := (bA.trans (b2.mono bA.size))
          have B2 : Hid (Below w.heap.size w w2) := B1.out.trans (b02.mono B1.out.size)
          have R2 : Hid (Rb w.heap.size C u4 w2) := Rb_below R1.out b02
          have M2 : Hid (Om bm w2) := Om_below M1.out b02
          have S2 : Hid (Sn wr.heap.size b bo bc w2) := Sn_below SN.out b02
          have D0 : Hid (w2.cell? ⟨w1.heap.size, 0, none⟩ = some (.int .u8 (x : Int)) ∧ w2.cell? ⟨w1.heap.size, 1, none⟩ = some (.slice bo m bc)) := ⟨(b2.cell (p := ⟨w1.heap.size, 0, none⟩) zA).trans cA0, (b2.cell (p := ⟨w1.heap.size, 1, none⟩) zA).trans cA1⟩
          have HH : Hid (wr.heap.size ≤ w1.heap.size ∧ w1.heap.size < w2.heap.size) := ⟨Z1.out, Nat.lt_of_lt_of_le zA b2.size⟩
          generalize w1.heap.size = h at D0 HH ⊢
          clear bA b2 b02 B1 KS R1 M1 cA0 cA1 zA SN
          obtain ⟨y, hy⟩ : ∃ y : UInt8, Hid (y = UInt8.ofNat x) := ⟨_, rfl⟩
          have hyx : (y.toNat : Int) = (x : Int) := by rw [hy.out]; simp; omega
          rw [← hy.out] at HA2
          rw [← hyx] at D0 ⊢
          clear hyx
          have hlen : C.length + 1 + m ≤ 4194304 := by omega
          rw [HMB.out] at D0 hlen ⊢
          go_upto_region 9 with fail
          refine RH.wp_region_genI (J9 w.heap.size wr.heap.size bm h w C y u4 b bo bc) [0, 0, 0, 1, 1, 0, 0, 1, 2] (by kernel_rfl) (by kernel_rfl) ((J9.start B2.out.drew ⟨Nat.le_trans HH.out.1 (Nat.le_of_lt HH.out.2), HH.out.2⟩ M2.out R2.out D0.out.1 D0.out.2 S2.out)) ?_
          dsimp only [List.toList_toArray]
          refine RH.goD (v := ?_) (f' := ?_) rfl ?_ ?_ ?_
          rotate_left 2
          · intro U K d wx hI hmay hK
            go_simp
            exact hK _ (J9.keep (by decide) hI)
          · intro U
            simp only [Act.put, List.setIfInBounds_toArray, List.set_cons_succ, List.set_cons_zero]
            rfl
          refine RH.goD (v := ?_) (f' := ?_) rfl ?_ ?_ ?_
          rotate_left 2
          · intro U K d wx hI hmay hK
            go_simp
            exact hK _ (J9.keep (by decide) hI)
          · intro U
            simp only [Act.put, List.setIfInBounds_toArray, List.set_cons_succ, List.set_cons_zero]
            rfl
          refine RH.goD (v := ?_) (f' := ?_) rfl ?_ ?_ ?_
          rotate_left 2
          · intro U K d wx hI hmay hK
            have h2 := hmay.1
            have x0 := (hI.bx (hI.n7 (.inr (.inl h2)))).1
            go_simp
            exact hK _ (J9.keep (by decide) hI)
          · intro U
            simp only [Act.put, List.setIfInBounds_toArray, List.set_cons_succ, List.set_cons_zero]
            rfl
          refine RH.goN (f' := ?_) rfl ?_ ?_ ?_
          rotate_left 1
          · intro U K d wx hI hmay hK
            have h3 := hmay.1
            have hd := hmay.2 _ rfl
            simp [Region.binds] at hd
            go_simp
            exact hK _ _ (hI.step3 h3 (by simp [hd]) HW.out)
          · intro U
            simp only [Act.put, List.setIfInBounds_toArray, List.set_cons_succ, List.set_cons_zero]
            rfl
          refine RH.goN (f' := ?_) rfl ?_ ?_ ?_
          rotate_left 1
          · intro U K d wx hI hmay hK
            have h4 := hmay.1
            have hd := hmay.2 _ rfl
            simp [Region.binds] at hd
            obtain ⟨v', w', ha4, hj⟩ := hI.step4 h4 (by simp [hd]) HW.out HV.out HH.out.1 (by omega) 24
            refine ap_up4 rfl rfl rfl ha4 ?_
            exact hK _ _ hj
          · intro U
            simp only [Act.put, List.setIfInBounds_toArray, List.set_cons_succ, List.set_cons_zero]
            rfl
          refine RH.goD (v := ?_) (f' := ?_) rfl ?_ ?_ ?_
          rotate_left 2
          · intro U K d wx hI hmay hK
            go_simp
            exact hK _ (J9.keep (by decide) hI)
          · intro U
            simp only [Act.put, List.setIfInBounds_toArray, List.set_cons_succ, List.set_cons_zero]
            rfl
          refine RH.goD (v := ?_) (f' := ?_) rfl ?_ ?_ ?_
          rotate_left 2
          · intro U K d wx hI hmay hK
            have h6 := hmay.1
            have x1 := (hI.bx (hI.n7 (.inl h6))).2.1
            go_simp
            exact hK _ (J9.keep (by decide) hI)
          · intro U
            simp only [Act.put, List.setIfInBounds_toArray, List.set_cons_succ, List.set_cons_zero]
            rfl
          refine RH.goN (f' := ?_) rfl ?_ ?_ ?_
          rotate_left 1
          · intro U K d wx hI hmay hK
            have h7 := hmay.1
            have hd := hmay.2 _ rfl
            simp [Region.binds] at hd
            obtain ⟨v', w', ha7, hj⟩ := hI.step7 h7 (by simp [hd]) (by simp [hd]) HW.out hlen 24
            refine ap_up4 rfl rfl rfl ha7 ?_
            exact hK _ _ hj
          · intro U
            simp only [Act.put, List.setIfInBounds_toArray, List.set_cons_succ, List.set_cons_zero]
            rfl
          refine RH.goT ?_
          refine RH.go_end ?_
          intro dd U w9 h9 hall
          simp +decide only [RH.tl, if_true, if_false]
          obtain ⟨r7⟩ : Nonempty (Rb w.heap.size (C ++ [y] ++ b) (U 7) w9) := ⟨h9.u7 (hall 7 (by decide))⟩
          have R9 : Hid (Rb w.heap.size (C ++ [y] ++ b) (U 7) w9) := r7
          have M9 : Hid (Om bm w9) := h9.om
          have B9 : Hid (Below w.heap.size w w9) := h9.bel
          clear h9 hall r7 R2 M2 B2 S2 D0
          generalize U 3 = V3
          generalize U 4 = V4
          generalize U 7 = V7 at *
          have hw := stwI i n hlt (by have := hz.out.1; omega)
          have hm2 := stmW i n hlt (by have := hz.out.1; omega)
          go_wp2_with fail
          go_roundw
          case rel => exact ⟨i + 1, C ++ [y] ++ b, hlt, by rw [hw.out]; rfl, HA2.out, by have := hP; have := HMB.out; simp; omega, R9.out, M9.out, B9.out⟩
          case measure => exact hm2.out
    · have ek : i = n := by omega
      subst ek
      have e1 : Hid (R = some C) := by
        show _ = _
        rw [hR.out, ha, List.drop_eq_nil_of_le (by rw [← hn.out]; exact Nat.le_refl _)]
        simp [asm]
      have HR : Hid (Rb w.heap.size C u4 wr) := hr
      have HB : Hid (Below w.heap.size w wr) := hb
      have d0 : ¬ (i : Int) < (i : Int) := by omega
      clear hr hb ha hp hm
      go_wp2_with fail
      go_ret2
      rw [e1.out]
      exact ⟨_, _, rfl, fun C' h => (by cases h; exact ⟨rfl, HR.out⟩), fun h => (by cases h), HB.out⟩
end Cd
end Go.Proofs.YtddaajdcoifmoaaDoor
/- Bytes that came in. -/
namespace Go.Proofs.YtddaajdcoifmoaaDoor
namespace Sp
open Go.ChangeShapes Go.WideShapes Go.ChangeAt Go.RowKit Go.Joins
theorem ownK : ownKnob Tryd.prog.godebug = none := by kernel_rfl
theorem laidOutK : laidOutB Tryd.prog = true := by kernel_rfl
theorem cellsU8 : Tryd.prog.cellsOf 5 = 1 := by kernel_rfl
theorem bytesU8 : Tryd.prog.bytesOf 5 = 1 := by kernel_rfl
/-- Numbers as bytes. -/
def ub (zs : List Int) : List UInt8 := zs.map fun z => UInt8.ofNat z.toNat
theorem ub_length (zs : List Int) : (ub zs).length = zs.length := by simp [ub]
theorem ub_bz (zs : List Int) (hz : ∀ z ∈ zs, 0 ≤ z ∧ z < 256) (j : Nat) (h : j < zs.length) : bz (ub zs) j = zs.getD j 0 := by
  have hm := hz zs[j] (List.getElem_mem h)
  have h2 : j < (ub zs).length := by rw [ub_length]; exact h
  unfold bz
  rw [List.getD_eq_getElem?_getD, List.getD_eq_getElem?_getD, List.getElem?_eq_getElem h2, List.getElem?_eq_getElem h]
  simp only [Option.getD_some, ub, List.getElem_map, UInt8.toNat_ofNat']
  omega
set_option maxRecDepth 100000 in
theorem open_bytes {H : Type} {enc : TypeId × Value → H} {W : World} {r : Reach} {b0 : Nat} {v : Value} {d : DataW H} {p : List MemPlace}
    (hv : Value.okWide Tryd.prog W r b0 24 v) (h : DataW.Trod enc Tryd.prog W 0 (fun _ => true) true 24 v d p) :
    ∃ (l : List UInt8) (ao : Option Addr) (cap : Nat), v = .slice ao l.length cap ∧ l.length ≤ cap ∧ Vw l ao W ∧ (l = [] ∨ ∃ elems spare, d = .slice elems spare ∧ elems.length = l.length) := by
  obtain ⟨a0, len, cap, rfl⟩ := okWide_slice Tryd.underlying24 hv
  obtain ⟨fuel, hf⟩ := h
  rcases open_ints Tryd.underlying24 Tryd.underlying5 cellsU8 hf with ⟨hcs, hx⟩ | ⟨a, len', cap', zs, hcs, _, hl, hm, hz, hx, hcell, hwz⟩
  · simp [Value.cells] at hcs
    obtain ⟨rfl, rfl, rfl⟩ := hcs
    exact ⟨[], none, 0, rfl, Nat.le_refl _, Vw_nil _ _, .inl rfl⟩
  · simp [Value.cells] at hcs
    obtain ⟨rfl, rfl, rfl⟩ := hcs
    simp only [if_true] at hz
    have hb : ∀ z ∈ zs, 0 ≤ z ∧ z < 256 := fun z hz' => by have := bounds_u8 (hwz z hz'); omega
    have hb' : ∀ z ∈ zs.take len, 0 ≤ z ∧ z < 256 := fun z hz' => hb z (List.mem_of_mem_take hz')
    have hlt : (ub (zs.take len)).length = len := by rw [ub_length, List.length_take]; omega
    simp only [Prod.mk.injEq] at hx
    refine ⟨ub (zs.take len), some a, cap, by rw [hlt], by rw [hlt]; exact hl, ?_, .inr ⟨_, _, hx.1, by simp [lits, hlt]; omega⟩⟩
    intro h0
    rw [hlt] at h0
    obtain ⟨b, off, rfl, hc⟩ := ints_at hcell (by omega)
    refine ⟨b, off, rfl, ?_, fun j hj => ?_⟩
    · exact World.block_lt_of_cell? W ⟨b, off + 0, none⟩ (hc 0 (by omega))
    · rw [hlt] at hj
      rw [hc j (by omega), ub_bz _ hb' j (by rw [List.length_take]; omega)]
      simp [List.getD_eq_getElem?_getD, hj]
end Sp
end Go.Proofs.YtddaajdcoifmoaaDoor
/- Strings that came in; what lines weigh. -/
namespace Go.Proofs.YtddaajdcoifmoaaDoor
namespace Cd
open Go.ChangeShapes Go.WideShapes Go.ChangeAt Go.RowKit
/-- What lines weigh. -/
def wl : List (List UInt8) → Nat
  | [] => 0
  | l :: r => l.length + 1 + wl r
theorem wl_len : ∀ ls : List (List UInt8), ls.length ≤ wl ls
  | [] => Nat.le_refl _
  | l :: r => by
    have := wl_len r
    rw [wl, List.length_cons]
    omega
theorem wl_mem : ∀ (ls : List (List UInt8)) (l : List UInt8), l ∈ ls → l.length + 1 ≤ wl ls
  | m :: r, l, h => by
    rw [wl]
    rcases List.mem_cons.1 h with rfl | h
    · omega
    · have := wl_mem r l h
      omega
theorem rdl_len {l : List UInt8} {x : Nat} {b : List UInt8} (h : rdl l = some (x, b)) : 1 + b.length ≤ l.length := by
  obtain ⟨h1, h2, h3⟩ := rdl_some h
  rw [← h3]
  unfold ln
  split
  · have := px_len [UInt8.ofNat x]
    rename_i h0
    have hp : psh (x : Int) = 0 := by
      by_cases hp : 0 < psh (x : Int)
      · exact absurd h0 (push_nm x h1 hp)
      · omega
    rw [this]
    simp
    omega
  · rename_i h0
    have hn : 0 < (nm x).length := List.length_pos_iff.2 h0
    split
    · have := px_len b
      simp
      omega
    · omega
theorem pl_wl : ∀ ls : List (List UInt8), pl ls ≤ wl ls
  | [] => Nat.le_refl _
  | l :: r => by
    have ih := pl_wl r
    rw [pl, wl]
    cases h : rdl l with
    | none => dsimp only; omega
    | some q =>
      obtain ⟨x, b⟩ := q
      have := rdl_len h
      show 1 + b.length + pl r ≤ l.length + 1 + wl r
      omega
theorem cellsStr : Tryd.prog.cellsOf 9 = 1 := by kernel_rfl
theorem blk_strs {H : Type} : ∀ ss : List ByteArray, Rows.uptoBulkAll (strs ss : List (DataW H)) = wl (ss.map fun s => s.data.toList)
  | [] => rfl
  | s :: r => by
    have ih := blk_strs (H := H) r
    show Rows.uptoBulkAll (.lit (.string s.data.toList) :: strs r) = _
    rw [Rows.uptoBulkAll, ih, Rows.uptoBulk]
    rfl
set_option maxRecDepth 100000 in
theorem open_lines {H : Type} {enc : TypeId × Value → H} {W : World} {r : Reach} {b0 : Nat} {v : Value} {d : DataW H} {p : List MemPlace}
    (hv : Value.okWide Tryd.prog W r b0 25 v) (h : DataW.Trod enc Tryd.prog W 0 (fun _ => true) true 25 v d p) :
    ∃ (ls : List (List UInt8)) (ao : Option Addr) (cap : Nat), v = .slice ao ls.length cap ∧ ls.length ≤ cap ∧ Vg ls ao W ∧ wl ls ≤ Rows.uptoBulk d := by
  obtain ⟨a0, len, cap, rfl⟩ := okWide_slice Tryd.underlying25 hv
  obtain ⟨fuel, hf⟩ := h
  rcases open_strings Tryd.underlying25 Tryd.underlying9 cellsStr hf with ⟨hcs, hx⟩ | ⟨a, len', cap', ss, hcs, _, hl, hm, hz, hx, hcell, hsz⟩
  · simp [Value.cells] at hcs
    obtain ⟨rfl, rfl, rfl⟩ := hcs
    exact ⟨[], none, 0, rfl, Nat.le_refl _, fun h => absurd h (by simp), Nat.zero_le _⟩
  · simp [Value.cells] at hcs
    obtain ⟨rfl, rfl, rfl⟩ := hcs
    simp only [if_true] at hz
    have hlt : ((ss.take len).map fun s => s.data.toList).length = len := by rw [List.length_map, List.length_take]; omega
    simp only [Prod.mk.injEq] at hx
    refine ⟨(ss.take len).map fun s => s.data.toList, some a, cap, by rw [hlt], by rw [hlt]; exact hl, ?_, ?_⟩
    · intro h0
      rw [hlt] at h0
      obtain ⟨b, off, spot⟩ := a
      have hspot : spot = none := by simpa [Addr.add] using World.cell?_spot (hcell 0 (by omega))
      subst hspot
      have hc : ∀ j, j < ss.length → W.cell? ⟨b, off + j, none⟩ = some (.string (ss.getD j ByteArray.empty)) := fun j hj => by rw [← Go.WideShapes.add_plain]; exact hcell j hj
      refine ⟨b, off, rfl, World.block_lt_of_cell? W ⟨b, off + 0, none⟩ (hc 0 (by omega)), fun j hj => ?_⟩
      rw [hlt] at hj
      rw [hc j (by omega)]
      have e : ((ss.take len).map fun s => s.data.toList).getD j [] = (ss.getD j ByteArray.empty).data.toList := by
        rw [List.getD_eq_getElem?_getD, List.getD_eq_getElem?_getD, List.getElem?_map, List.getElem?_take, if_pos hj, List.getElem?_eq_getElem (by omega)]
        rfl
      rw [e]
      rfl
    · have hd : d = _ := hx.1
      rw [hd, Rows.uptoBulk, blk_strs]
      omega
end Cd
end Go.Proofs.YtddaajdcoifmoaaDoor
/- The reference's names. -/
namespace Go.Proofs.YtddaajdcoifmoaaDoor
namespace Cd
open Go.RowKit RI RH
/-- The table, field by field. -/
def fT : List (List UInt8) := [[48, 48, 115, 116, 111, 112], [48, 49, 97, 100, 100], [48, 50, 109, 117, 108], [48, 51, 115, 117, 98], [48, 52, 100, 105, 118], [48, 53, 115, 100, 105, 118], [48, 54, 109, 111, 100], [48, 55, 115, 109, 111, 100], [48, 56, 97, 100, 100, 109, 111, 100], [48, 57, 109, 117, 108, 109, 111, 100], [48, 97, 101, 120, 112], [48, 98, 101, 120, 116, 101, 110, 100], [49, 48, 108, 116], [49, 49, 103, 116], [49, 50, 115, 108, 116], [49, 51, 115, 103, 116], [49, 52, 101, 113], [49, 53, 122, 101, 114, 111], [49, 54, 97, 110, 100], [49, 55, 111, 114], [49, 56, 120, 111, 114], [49, 57, 110, 111, 116], [49, 97, 98, 121, 116, 101], [49, 98, 115, 104, 108], [49, 99, 115, 104, 114], [49, 100, 115, 97, 114], [50, 48, 115, 117, 109], [51, 48, 115, 101, 108, 102], [51, 49, 109, 111, 110, 101, 121], [51, 50, 99, 97, 108, 108, 101, 114], [51, 51, 118, 97, 108, 117, 101], [51, 52, 105, 110, 119, 111, 114, 100], [51, 53, 105, 110, 115, 105, 122, 101], [51, 54, 105, 110, 99, 111, 112, 121], [51, 55, 99, 111, 100, 101, 115, 105, 122, 101], [51, 56, 98, 97, 99, 107, 115, 105, 122, 101], [51, 57, 98, 97, 99, 107, 99, 111, 112, 121], [52, 48, 116, 105, 109, 101], [52, 49, 110, 117, 109, 98, 101, 114], [52, 50, 107, 101, 101, 112, 101, 114], [53, 48, 112, 111, 112], [53, 49, 108, 111, 97, 100], [53, 50, 115, 116, 111, 114, 101], [53, 51, 115, 116, 111, 114, 101, 56], [53, 52, 115, 108, 111, 116], [53, 53, 107, 101, 101, 112], [53, 54, 106, 117, 109, 112], [53, 55, 98, 114, 97, 110, 99, 104], [53, 56, 112, 99], [53, 57, 115, 105, 122, 101], [53, 97, 103, 97, 115], [53, 98, 108, 97, 110, 100], [102, 48, 109, 97, 107, 101], [102, 49, 99, 97, 108, 108], [102, 50, 114, 101, 116, 117, 114, 110], [102, 51, 108, 111, 111, 107], [102, 52, 108, 101, 110, 100], [102, 100, 114, 101, 118, 101, 114, 116]]
theorem fT_len : fT.length = 58 := by decide +kernel
/-- An operation's two digits. -/
def dg2 (x : Nat) : List UInt8 := (px [UInt8.ofNat x]).drop 2
def tk (k : Nat) : List UInt8 := fT.getD k []
theorem tk_hit : ∀ k x : Nat, k < 58 → x < 256 → (tk k).take 2 = dg2 x → (tk k).drop 2 = nm x := by
  have h : (List.range 58).all (fun k => (List.range 256).all fun x => !((tk k).take 2 == dg2 x) || ((tk k).drop 2 == nm x)) = true := by decide +kernel
  intro k x hk hx he
  have := List.all_eq_true.1 (List.all_eq_true.1 h k (List.mem_range.2 hk)) x (List.mem_range.2 hx)
  simpa [he] using this
theorem tk_len : ∀ k : Nat, k < 58 → 2 ≤ (tk k).length ∧ (tk k).length ≤ 20 := by
  have h : (List.range 58).all (fun k => decide (2 ≤ (tk k).length ∧ (tk k).length ≤ 20)) = true := by decide +kernel
  intro k hk
  have := List.all_eq_true.1 h k (List.mem_range.2 hk)
  simpa using this
theorem tk_none : ∀ x : Nat, x < 256 → (∀ k, k < 58 → (tk k).take 2 ≠ dg2 x) → ¬ (96 ≤ x ∧ x < 163) → nm x = [] := by
  have h : (List.range 256).all (fun x => ((List.range 58).any fun k => (tk k).take 2 == dg2 x) || decide (96 ≤ x ∧ x < 163) || (nm x == [])) = true := by decide +kernel
  intro x hx hn hg
  have := List.all_eq_true.1 h x (List.mem_range.2 hx)
  rw [Bool.or_eq_true, Bool.or_eq_true] at this
  rcases this with (h1 | h1) | h1
  · obtain ⟨k, hk, he⟩ := List.any_eq_true.1 h1
    exact absurd (by simpa using he) (hn k (List.mem_range.1 hk))
  · exact absurd (of_decide_eq_true h1) hg
  · simpa using h1
/-- What holds within the test of a field. -/
structure E4 (w0 : World) (x : Int) (P D : ByteArray) (t : Bool) (d : Nat → Bool) (U : Nat → Value) (wx : World) : Prop where
  bel : Below w0.heap.size w0 wx
  u1 : d 1 = true → d 2 = false → ∃ g, U 1 = .slice (some ⟨g, 0, none⟩) 1 1 ∧ g < wx.heap.size ∧ wx.cell? ⟨g, 0, none⟩ = some (.int .u8 x)
  u2 : d 2 = true → U 2 = .string P
  u3 : d 3 = true → U 3 = .string D
  u6 : d 6 = true → U 6 = .bool t
  q2 : d 2 = true → d 1 = true
variable {w0 : World} {x : Int} {P D : ByteArray} {t : Bool} {d : Nat → Bool} {U : Nat → Value} {wx : World}
theorem E4.start (hb : Below w0.heap.size w0 wx) : E4 w0 x P D t (fun _ => false) (fun _ => undef) wx := ⟨hb, nofun, nofun, nofun, nofun, nofun⟩
theorem E4.keep {i : Nat} (hi : i ≠ 1 ∧ i ≠ 2 ∧ i ≠ 3 ∧ i ≠ 6) (h : E4 w0 x P D t d U wx) : E4 w0 x P D t (don d i) U wx := by
  have e1 : don d i 1 = d 1 := don_other _ _ _ (fun e => hi.1 e.symm)
  have e2 : don d i 2 = d 2 := don_other _ _ _ (fun e => hi.2.1 e.symm)
  have e3 : don d i 3 = d 3 := don_other _ _ _ (fun e => hi.2.2.1 e.symm)
  have e6 : don d i 6 = d 6 := don_other _ _ _ (fun e => hi.2.2.2 e.symm)
  exact ⟨h.bel, by rw [e1, e2]; exact h.u1, by rw [e2]; exact h.u2, by rw [e3]; exact h.u3, by rw [e6]; exact h.u6, by rw [e1, e2]; exact h.q2⟩
theorem cU_s (U : Nat → Value) (i : Nat) (z : Value) : updU U i z i = z := by simp [updU]
theorem cU_o (U : Nat → Value) {i j : Nat} (z : Value) (h : j ≠ i) : updU U i z j = U j := by unfold updU; rw [if_neg h]
theorem E4.s1 (h : E4 w0 x P D t d U wx) (h1 : d 1 = false) : E4 w0 x P D t (don d 1) (updU U 1 (.slice (some ⟨wx.heap.size, 0, none⟩) 1 1)) (wx.alloc (.cells #[.int .u8 x] 5)) := by
  have e2 : don d 1 2 = d 2 := don_other _ _ _ (by decide)
  have e3 : don d 1 3 = d 3 := don_other _ _ _ (by decide)
  have e6 : don d 1 6 = d 6 := don_other _ _ _ (by decide)
  refine ⟨h.bel.trans (((Below.refl _ _).alloc (Nat.le_refl _) _).mono h.bel.size), fun _ _ => ?_, fun k => ?_, fun k => ?_, fun k => ?_, fun _ => don_same _ _⟩
  · rw [cU_s]; exact ⟨wx.heap.size, rfl, by simp, by simp⟩
  · rw [e2] at k; have := h.q2 k; rw [h1] at this; cases this
  · rw [e3] at k; rw [cU_o _ _ (by decide)]; exact h.u3 k
  · rw [e6] at k; rw [cU_o _ _ (by decide)]; exact h.u6 k
theorem E4.s2 {w' : World} (h : E4 w0 x P D t d U wx) (h1 : d 1 = true) (hb : Below wx.heap.size wx w') : E4 w0 x P D t (don d 2) (updU U 2 (.string P)) w' := by
  have e1 : don d 2 1 = d 1 := don_other _ _ _ (by decide)
  have e3 : don d 2 3 = d 3 := don_other _ _ _ (by decide)
  have e6 : don d 2 6 = d 6 := don_other _ _ _ (by decide)
  have e2 : don d 2 2 = true := don_same _ _
  refine ⟨h.bel.trans (hb.mono h.bel.size), fun _ k => ?_, fun _ => cU_s _ _ _, fun k => ?_, fun k => ?_, fun _ => by rw [e1]; exact h1⟩
  · rw [e2] at k; cases k
  · rw [e3] at k; rw [cU_o _ _ (by decide)]; exact h.u3 k
  · rw [e6] at k; rw [cU_o _ _ (by decide)]; exact h.u6 k
theorem E4.s3 (h : E4 w0 x P D t d U wx) : E4 w0 x P D t (don d 3) (updU U 3 (.string D)) wx := by
  have e1 : don d 3 1 = d 1 := don_other _ _ _ (by decide)
  have e2 : don d 3 2 = d 2 := don_other _ _ _ (by decide)
  have e6 : don d 3 6 = d 6 := don_other _ _ _ (by decide)
  refine ⟨h.bel, ?_, fun k => ?_, fun _ => cU_s _ _ _, fun k => ?_, by rw [e1, e2]; exact h.q2⟩
  · rw [e1, e2, cU_o _ _ (by decide)]; exact h.u1
  · rw [e2] at k; rw [cU_o _ _ (by decide)]; exact h.u2 k
  · rw [e6] at k; rw [cU_o _ _ (by decide)]; exact h.u6 k
theorem E4.s6 (h : E4 w0 x P D t d U wx) : E4 w0 x P D t (don d 6) (updU U 6 (.bool t)) wx := by
  have e1 : don d 6 1 = d 1 := don_other _ _ _ (by decide)
  have e2 : don d 6 2 = d 2 := don_other _ _ _ (by decide)
  have e3 : don d 6 3 = d 3 := don_other _ _ _ (by decide)
  refine ⟨h.bel, ?_, fun k => ?_, fun k => ?_, fun _ => cU_s _ _ _, by rw [e1, e2]; exact h.q2⟩
  · rw [e1, e2, cU_o _ _ (by decide)]; exact h.u1
  · rw [e2] at k; rw [cU_o _ _ (by decide)]; exact h.u2 k
  · rw [e3] at k; rw [cU_o _ _ (by decide)]; exact h.u3 k
end Cd
end Go.Proofs.YtddaajdcoifmoaaDoor
/- lampbearerref.LName. -/
namespace Go.Proofs.YtddaajdcoifmoaaDoor
namespace Cd
open Go.RowKit RI RH
/-- The table's fields in memory. -/
def Fd (g : Nat) (w : World) : Prop := g < w.heap.size ∧ ∀ k, k < 58 → w.cell? ⟨g, k, none⟩ = some (.string (sb (tk k)))
theorem Fd_below {g : Nat} {w w' : World} (h : Fd g w) (hb : Below w.heap.size w w') : Fd g w' := ⟨Nat.lt_of_lt_of_le h.1 hb.size, fun k hk => (hb.cell (p := ⟨g, k, none⟩) h.1).trans (h.2 k hk)⟩
theorem asc (l : List UInt8) (h : l.all (fun b => decide (b.toNat < 128)) = true) : ∀ (j : Nat) b, l[j]? = some b → b.toNat < 128 := fun j b hj => by
  have := List.all_eq_true.1 h b (List.mem_of_getElem? hj)
  simpa using this
theorem fields_any (s : ByteArray) (hf : Lib.fields s.data.toList = fT) (hs : s.size < 4294967281) (ha : s.data.toList.all (fun b => decide (b.toNat < 128)) = true) (w : World) (htab : Lib.TabIs Tryd.prog w "strings.asciiSpace" .u8 Lib.asciiSpaceTab) : Calls Tryd.prog 24 #[.string s] w fun e w' => e = .returned (.slice (some ⟨w.heap.size, 0, none⟩) 58 58) ∧ Fd w.heap.size w' ∧ Below w.heap.size w w' := by
  refine (Tryd.strings_Fields s w hs (asc _ ha) htab).mono fun e w' he => ?_
  rw [hf, fT_len] at he
  obtain ⟨rfl, rfl⟩ := he
  have hN := heap_alloc_new w (.cells (fT.map fun l => Value.string ⟨l.toArray⟩).toArray 9 (0, 0))
  refine ⟨rfl, ⟨by simp, fun k hk => ?_⟩, (Below.refl _ _).alloc (Nat.le_refl _) _⟩
  have hk2 : k < fT.length := by rw [fT_len]; exact hk
  simp only [World.cell?, hN]
  simp [tk, sb, hk2]
theorem xp_one (x : Nat) (hx : x < 256) (g : Nat) (w : World) (hg : g < w.heap.size) (hc : w.cell? ⟨g, 0, none⟩ = some (.int .u8 (x : Int))) : Calls Tryd.prog 25 #[.slice (some ⟨g, 0, none⟩) 1 1] w fun e w' => e = .returned (.string (sb (px [UInt8.ofNat x]))) ∧ Below w.heap.size w w' := by
  have e : (UInt8.ofNat x).toNat = x := by simp; omega
  have k := xprint_any (fun j => (Sp.bz [UInt8.ofNat x] j).toNat) (fun j => by have := Sp.bz_lt [UInt8.ofNat x] j; omega) 1 g 0 1 (by show 1 ≤ _; omega) (Nat.le_refl _) w hg (fun j hj => by
    obtain rfl : j = 0 := by omega
    rw [hc]
    show _ = some (Value.int .u8 ((((UInt8.ofNat x).toNat : Int).toNat : Nat) : Int))
    rw [e]
    simp)
  exact k
set_option maxHeartbeats 4000000 in
set_option maxRecDepth 100000 in
theorem lname_hit (x : Nat) (hx : x < 256) (n : Nat) (hn : n < 58) (hit : (tk n).take 2 = dg2 x) (hno : ∀ k, k < n → (tk k).take 2 ≠ dg2 x) (w : World) (htab : Lib.TabIs Tryd.prog w "strings.asciiSpace" .u8 Lib.asciiSpaceTab) : Calls Tryd.prog 9 #[.int .u8 (x : Int)] w fun e w' => e = .returned (.string (sb (nm x))) ∧ Below w.heap.size w w' := by
  have HNM : Hid ((tk n).drop 2 = nm x) := tk_hit n x hn hx hit
  have HNO : Hid (∀ k, k < n → (tk k).take 2 ≠ dg2 x) := hno
  have HIT : Hid ((tk n).take 2 = dg2 x) := hit
  clear hno hit
  have HX : Hid (x < 256) := hx
  obtain ⟨P, hP⟩ : ∃ P, Hid (P = sb (px [UInt8.ofNat x])) := ⟨_, rfl⟩
  obtain ⟨D, hD⟩ : ∃ D, Hid (D = sb (dg2 x)) := ⟨_, rfl⟩
  have KX : Hid (∀ (g : Nat) (W : World), g < W.heap.size → W.cell? ⟨g, 0, none⟩ = some (.int .u8 (x : Int)) → Calls Tryd.prog 25 #[.slice (some ⟨g, 0, none⟩) 1 1] W fun e w' => e = .returned (.string P) ∧ Below W.heap.size W w') := fun g W hg hc => by
    rw [hP.out]
    exact xp_one x hx g W hg hc
  have hps : P.size = 4 := by rw [hP.out, sb_size, px_len]; rfl
  have hpx : P.extract 2 4 = D := by rw [hP.out, ext_dp _ 2 4 (by rw [px_len]; rfl), hD.out]; rfl
  clear hx hP
  go_enter Tryd.func9, Tryd.ntmps9
  go_wp2_with fail
  refine (fields_any _ (by kernel_rfl) (by decide +kernel) (by decide +kernel) w htab).mono ?_
  rintro e w1 ⟨rfl, f1, b1⟩
  have F1 : Hid (Fd w.heap.size w1) := f1
  have B1 : Hid (Below w.heap.size w w1) := b1
  clear f1 b1 htab
  go_wp2_with fail
  go_loopw [10] (fun p wr => ∃ k : Nat, k ≤ n ∧ p = .int .i64 (k : Int) ∧ Below w1.heap.size w1 wr) (fun p _ => ((58 : Int) - intOf p).toNat)
  case atStart => exact ⟨0, Nat.zero_le _, rfl, Below.refl _ _⟩
  case round =>
    obtain ⟨k, hk, rfl, hb⟩ := hrel
    by_cases hlt : k < n
    · have d1 : (k : Int) < 58 := by omega
      have d2 : (0 : Int) ≤ (k : Int) := by omega
      have d3 : (k : Int) < ((58 : Nat) : Int) := by omega
      have FR : Hid (Fd w.heap.size wr) := Fd_below F1.out hb
      have ck := FR.out.2 k (by omega)
      obtain ⟨l1, l2⟩ := tk_len k (by omega)
      have HB : Hid (Below w1.heap.size w1 wr) := hb
      obtain ⟨F, hF⟩ : ∃ F, Hid (F = tk k) := ⟨_, rfl⟩
      rw [← hF.out] at ck l1 l2
      have hcmp : ¬ dg2 x = F.take 2 := by rw [hF.out]; exact fun h => HNO.out k hlt h.symm
      have hsz : (sb F).size = F.length := sb_size F
      have e0 : (2 : Int) ≤ (F.length : Int) := by omega
      have ht : (D.toList == (sb (F.take 2)).toList) = false := by rw [hD.out, sb_list, sb_list]; simpa using hcmp
      clear hb
      go_upto_region 4 with fail
      refine RH.wp_region_genI (E4 wr (x : Int) P D false) [0, 1, 1, 1, 0, 0, 1] (by kernel_rfl) (by kernel_rfl) ((E4.start (Below.refl _ _).drew)) ?_
      dsimp only [List.toList_toArray]
      refine RH.goD (v := ?_) (f' := ?_) rfl ?_ ?_ ?_
      rotate_left 2
      · intro U K d wx hI hmay hK
        go_simp
        exact hK _ (E4.keep (by decide) hI)
      · intro U
        simp only [Act.put, List.setIfInBounds_toArray, List.set_cons_succ, List.set_cons_zero]
        rfl
      refine RH.goN (f' := ?_) rfl ?_ ?_ ?_
      rotate_left 1
      · intro U K d wx hI hmay hK
        have h1 := hmay.1
        go_simp
        exact hK _ _ (hI.s1 h1)
      · intro U
        simp only [Act.put, List.setIfInBounds_toArray, List.set_cons_succ, List.set_cons_zero]
        rfl
      refine RH.goN (f' := ?_) rfl ?_ ?_ ?_
      rotate_left 1
      · intro U K d wx hI hmay hK
        have h2 := hmay.1
        have hd := hmay.2 _ rfl
        simp [Region.binds] at hd
        obtain ⟨g, hu, hg, hc⟩ := hI.u1 (by simp [hd]) h2
        go_simp
        try rw [hu]
        refine (KX.out g wx hg hc).mono (fun e w2 he => ?_)
        obtain ⟨rfl, hb⟩ := he
        refine ⟨_, rfl, ?_⟩
        exact hK _ _ (hI.s2 (by simp [hd]) hb)
      · intro U
        simp only [Act.put, List.setIfInBounds_toArray, List.set_cons_succ, List.set_cons_zero]
        rfl
      refine RH.goN (f' := ?_) rfl ?_ ?_ ?_
      rotate_left 1
      · intro U K d wx hI hmay hK
        have hd := hmay.2 _ rfl
        simp [Region.binds] at hd
        have hu := hI.u2 (by simp [hd])
        go_simp
        try rw [hu]
        try go_simp
        exact hK _ _ hI.s3
      · intro U
        simp only [Act.put, List.setIfInBounds_toArray, List.set_cons_succ, List.set_cons_zero]
        rfl
      refine RH.goD (v := ?_) (f' := ?_) rfl ?_ ?_ ?_
      rotate_left 2
      · intro U K d wx hI hmay hK
        go_simp
        exact hK _ (E4.keep (by decide) hI)
      · intro U
        simp only [Act.put, List.setIfInBounds_toArray, List.set_cons_succ, List.set_cons_zero]
        rfl
      refine RH.goD (v := ?_) (f' := ?_) rfl ?_ ?_ ?_
      rotate_left 2
      · intro U K d wx hI hmay hK
        go_simp
        rw [ext_tk]
        exact hK _ (E4.keep (by decide) hI)
      · intro U
        simp only [Act.put, List.setIfInBounds_toArray, List.set_cons_succ, List.set_cons_zero]
        rfl
      refine RH.goN (f' := ?_) rfl ?_ ?_ ?_
      rotate_left 1
      · intro U K d wx hI hmay hK
        have hd := hmay.2 _ rfl
        simp [Region.binds] at hd
        have hu := hI.u3 (by simp [hd])
        go_simp
        try rw [hu]
        try go_simp
        exact hK _ _ hI.s6
      · intro U
        simp only [Act.put, List.setIfInBounds_toArray, List.set_cons_succ, List.set_cons_zero]
        rfl
      refine RH.go_end ?_
      intro dd U w9 h9 hall
      simp +decide only [RH.tl, if_false]
      have U1 := h9.u2 (hall 2 (by decide))
      have U2 := h9.u3 (hall 3 (by decide))
      have U3 := h9.u6 (hall 6 (by decide))
      have B9 : Hid (Below w1.heap.size w1 w9) := HB.out.trans (h9.bel.mono HB.out.size)
      rw [U1, U2, U3]
      clear h9 hall U1 U2 U3 FR ck
      generalize U 1 = V1
      have hw := stwI k 58 (by omega) (by omega)
      have hm2 := stmW k 58 (by omega) (by omega)
      go_wp2_with fail
      go_roundw
      case rel => exact ⟨k + 1, by omega, by first | rfl | (rw [hw.out]; rfl), B9.out⟩
      case measure =>
        first
          | exact hm2.out
          | (show ((58 : Int) - ((k : Int) + 1)).toNat < ((58 : Int) - (k : Int)).toNat
             omega)
    · obtain rfl : k = n := by omega
      have d1 : (k : Int) < 58 := by omega
      have d2 : (0 : Int) ≤ (k : Int) := by omega
      have d3 : (k : Int) < ((58 : Nat) : Int) := by omega
      have FR : Hid (Fd w.heap.size wr) := Fd_below F1.out hb
      have ck := FR.out.2 k (by omega)
      obtain ⟨l1, l2⟩ := tk_len k (by omega)
      have HB : Hid (Below w1.heap.size w1 wr) := hb
      obtain ⟨F, hF⟩ : ∃ F, Hid (F = tk k) := ⟨_, rfl⟩
      rw [← hF.out] at ck l1 l2
      have hcmp : dg2 x = F.take 2 := by rw [hF.out]; exact HIT.out.symm
      have hsz : (sb F).size = F.length := sb_size F
      have e0 : (2 : Int) ≤ (F.length : Int) := by omega
      have ht : (D.toList == (sb (F.take 2)).toList) = true := by rw [hD.out, sb_list, sb_list]; rw [hcmp]; simp
      clear hb
      go_upto_region 4 with fail
      refine RH.wp_region_genI (E4 wr (x : Int) P D true) [0, 1, 1, 1, 0, 0, 1] (by kernel_rfl) (by kernel_rfl) ((E4.start (Below.refl _ _).drew)) ?_
      dsimp only [List.toList_toArray]
      refine RH.goD (v := ?_) (f' := ?_) rfl ?_ ?_ ?_
      rotate_left 2
      · intro U K d wx hI hmay hK
        go_simp
        exact hK _ (E4.keep (by decide) hI)
      · intro U
        simp only [Act.put, List.setIfInBounds_toArray, List.set_cons_succ, List.set_cons_zero]
        rfl
      refine RH.goN (f' := ?_) rfl ?_ ?_ ?_
      rotate_left 1
      · intro U K d wx hI hmay hK
        have h1 := hmay.1
        go_simp
        exact hK _ _ (hI.s1 h1)
      · intro U
        simp only [Act.put, List.setIfInBounds_toArray, List.set_cons_succ, List.set_cons_zero]
        rfl
      refine RH.goN (f' := ?_) rfl ?_ ?_ ?_
      rotate_left 1
      · intro U K d wx hI hmay hK
        have h2 := hmay.1
        have hd := hmay.2 _ rfl
        simp [Region.binds] at hd
        obtain ⟨g, hu, hg, hc⟩ := hI.u1 (by simp [hd]) h2
        go_simp
        try rw [hu]
        refine (KX.out g wx hg hc).mono (fun e w2 he => ?_)
        obtain ⟨rfl, hb⟩ := he
        refine ⟨_, rfl, ?_⟩
        exact hK _ _ (hI.s2 (by simp [hd]) hb)
      · intro U
        simp only [Act.put, List.setIfInBounds_toArray, List.set_cons_succ, List.set_cons_zero]
        rfl
      refine RH.goN (f' := ?_) rfl ?_ ?_ ?_
      rotate_left 1
      · intro U K d wx hI hmay hK
        have hd := hmay.2 _ rfl
        simp [Region.binds] at hd
        have hu := hI.u2 (by simp [hd])
        go_simp
        try rw [hu]
        try go_simp
        exact hK _ _ hI.s3
      · intro U
        simp only [Act.put, List.setIfInBounds_toArray, List.set_cons_succ, List.set_cons_zero]
        rfl
      refine RH.goD (v := ?_) (f' := ?_) rfl ?_ ?_ ?_
      rotate_left 2
      · intro U K d wx hI hmay hK
        go_simp
        exact hK _ (E4.keep (by decide) hI)
      · intro U
        simp only [Act.put, List.setIfInBounds_toArray, List.set_cons_succ, List.set_cons_zero]
        rfl
      refine RH.goD (v := ?_) (f' := ?_) rfl ?_ ?_ ?_
      rotate_left 2
      · intro U K d wx hI hmay hK
        go_simp
        rw [ext_tk]
        exact hK _ (E4.keep (by decide) hI)
      · intro U
        simp only [Act.put, List.setIfInBounds_toArray, List.set_cons_succ, List.set_cons_zero]
        rfl
      refine RH.goN (f' := ?_) rfl ?_ ?_ ?_
      rotate_left 1
      · intro U K d wx hI hmay hK
        have hd := hmay.2 _ rfl
        simp [Region.binds] at hd
        have hu := hI.u3 (by simp [hd])
        go_simp
        try rw [hu]
        try go_simp
        exact hK _ _ hI.s6
      · intro U
        simp only [Act.put, List.setIfInBounds_toArray, List.set_cons_succ, List.set_cons_zero]
        rfl
      refine RH.go_end ?_
      intro dd U w9 h9 hall
      simp +decide only [RH.tl, if_false]
      have U1 := h9.u2 (hall 2 (by decide))
      have U2 := h9.u3 (hall 3 (by decide))
      have U3 := h9.u6 (hall 6 (by decide))
      have B9 : Hid (Below w1.heap.size w1 w9) := HB.out.trans (h9.bel.mono HB.out.size)
      rw [U1, U2, U3]
      clear h9 hall U1 U2 U3 FR ck
      generalize U 1 = V1
      have hdr : (sb F).extract 2 F.length = sb (nm x) := by rw [ext_dp F 2 F.length rfl, hF.out, HNM.out]
      generalize F.length = m at *
      generalize sb F = N at *
      go_wp2_with fail
      go_ret
      exact ⟨rfl, B1.out.trans (B9.out.mono B1.out.size)⟩
end Cd
end Go.Proofs.YtddaajdcoifmoaaDoor
