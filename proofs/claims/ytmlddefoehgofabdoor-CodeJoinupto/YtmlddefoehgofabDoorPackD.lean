/- slices.Clone of bytes; code behind whole code, as lists. -/
import Derived.Test.YtmlddefoehgofabDoorPackA
import Derived.Test.YtmlddefoehgofabDoorPackB
import Derived.Test.YtmlddefoehgofabDoorPackC
import Derived.Lib.SliceRun
import Derived.Maps.OwnSet
import Derived.Test.YtmlddefoehgofabDoorCards
import Derived.Test.YtmlddefoehgofabDoorTie
import Derived.WalkKit
import Derived.ProofKit
import Derived.OpenShut
import Derived.JoinedCond
import Derived.ChangeMaps5
import Derived.Deep.DeepHandedRow
import Derived.Lib.LaidTab
import Derived.ShutString
import Derived.ChangeOld
import Derived.Lib.SmallJoins
import Derived.SizedLaws
namespace Go.Proofs.YtmlddefoehgofabDoor
namespace Cs
open Go.RowKit Sp
theorem own_nil_b {base : Nat} {w : World} (h : base ≤ w.heap.size) : (w.alloc (.cells #[] 5)).ownsRow base 5 1 (.slice (some ⟨w.heap.size, 0, none⟩) 0 0) ([] : List Value).length [] :=
  World.ownsRow_lit w #[] 0 h (Nat.zero_le _) rfl
set_option maxHeartbeats 400000 in
set_option maxRecDepth 100000 in
theorem clone_b (xs : List Value) (v : Value) (w : World) (hl : xs.length ≤ 1048576) (h1 : ∀ u ∈ xs, u.oneCell' = true) (h : Vl xs v w) :
    Calls Tryd.prog 6 #[v] w fun e w' => ∃ v', e = .returned v' ∧ w'.ownsRow w.heap.size 5 1 v' xs.length xs ∧ Below w.heap.size w w' := by
  have q0 : ∀ (w : World) (n c : Nat), (binOp .eql 22 (.slice none n c) (.slice none 0 0)).run Tryd.prog w = .ok (.bool true) w := fun w n c => Lib.run_eql_slice_nil w _ _ none n c 0 0 Tryd.underlying22
  have q1 : ∀ (w : World) (a : Addr) (n c : Nat), (binOp .eql 22 (.slice (some a) n c) (.slice none 0 0)).run Tryd.prog w = .ok (.bool false) w := fun w a n c => Lib.run_eql_slice_nil w _ _ (some a) n c 0 0 Tryd.underlying22
  have h' := h
  obtain ⟨ao, cap, rfl, hv⟩ := h
  cases ao with
  | none =>
    have e : xs = [] := by
      by_cases h0 : 0 < xs.length
      · obtain ⟨g, off, e, _⟩ := hv h0
        cases e
      · exact List.length_eq_zero_iff.1 (by omega)
    subst e
    clear h' hv h1 hl
    go_enter Tryd.func6, Tryd.ntmps6
    go_wp2
    go_ret
    exact ⟨_, rfl, World.ownsRow_nil _ _ _ _, Below.refl _ _⟩
  | some a =>
    have hb : Below w.heap.size w (w.alloc (.cells #[] 5)) := (Below.refl _ _).alloc (Nat.le_refl _) _
    obtain ⟨v2, w2, hap, ho, hb2⟩ := appv_b 22 (own_nil_b (Nat.le_refl _)) (Vl_below h' hb) h1 (by simp) (by rw [List.length_nil]; omega)
    rw [List.nil_append] at ho
    have HO : Hid (w2.ownsRow w.heap.size 5 1 v2 xs.length xs) := ho
    have HB : Hid (Below w.heap.size w w2) := hb.trans hb2
    clear h' hv h1 hl hb hb2 ho
    generalize xs.length = n at *
    go_enter Tryd.func6, Tryd.ntmps6
    go_wp2_with (at_builtin; refine wpList_app rfl rfl rfl rfl hap ?_)
    go_ret
    exact ⟨_, rfl, HO.out, HB.out⟩
end Cs
namespace Cd
theorem bz_app (a b : List UInt8) (i : Nat) : Sp.bz (a ++ b) i = if i < a.length then Sp.bz a i else Sp.bz b (i - a.length) := by
  unfold Sp.bz
  by_cases h : i < a.length
  · rw [if_pos h, List.getD_eq_getElem?_getD, List.getD_eq_getElem?_getD, List.getElem?_append_left h]
  · rw [if_neg h, List.getD_eq_getElem?_getD, List.getD_eq_getElem?_getD, List.getElem?_append_right (by omega)]
theorem st_left (a b : List UInt8) : ∀ i, i ≤ a.length → Cd.st (a ++ b) i = Cd.st a i
  | 0, _ => rfl
  | i + 1, h => by
    have ih := st_left a b i (by omega)
    have e : Sp.bz (a ++ b) i = Sp.bz a i := by rw [bz_app, if_pos (by omega)]
    by_cases h0 : (Cd.st a i).2 = 0
    · rw [st_op h0, st_op (c := a ++ b) (by rw [ih]; exact h0), ih, e]
    · rw [st_push h0, st_push (c := a ++ b) (by rw [ih]; exact h0), ih]
theorem st_right (a b : List UInt8) (h0 : (Cd.st a a.length).2 = 0) : ∀ j, Cd.st (a ++ b) (a.length + j) = ((Cd.st a a.length).1 ++ (Cd.st b j).1.map (· + a.length), (Cd.st b j).2)
  | 0 => by
    rw [Nat.add_zero, st_left a b _ (Nat.le_refl _)]
    show _ = ((Cd.st a a.length).1 ++ [], 0)
    rw [List.append_nil, ← h0]
  | j + 1 => by
    have ih := st_right a b h0 j
    show Cd.st (a ++ b) (a.length + j + 1) = _
    have e : Sp.bz (a ++ b) (a.length + j) = Sp.bz b j := by rw [bz_app, if_neg (by omega), Nat.add_sub_cancel_left]
    by_cases hz : (Cd.st b j).2 = 0
    · rw [st_op (c := a ++ b) (by rw [ih]; exact hz), st_op hz, ih, e]
      dsimp only
      by_cases hb : Sp.bz b j = 91
      · rw [if_pos hb, if_pos hb, List.map_append, List.append_assoc]
        simp [Nat.add_comm]
      · rw [if_neg hb, if_neg hb]
    · rw [st_push (c := a ++ b) (by rw [ih]; exact hz), st_push hz, ih]
theorem psh_0 : psh 0 = 0 := by decide
theorem st_zeros (a : List UInt8) (n : Nat) : ∀ j, j ≤ n → (Cd.st (a ++ List.replicate n 0) (a.length + j)).2 ≤ 32 - j
  | 0, _ => by rw [Nat.sub_zero]; exact st_le2 _ _
  | j + 1, h => by
    have ih := st_zeros a n j (by omega)
    show (Cd.st _ (a.length + j + 1)).2 ≤ _
    by_cases h0 : (Cd.st (a ++ List.replicate n 0) (a.length + j)).2 = 0
    · have e : Sp.bz (a ++ List.replicate n 0) (a.length + j) = 0 := by
        rw [bz_app, if_neg (by omega), Nat.add_sub_cancel_left]
        unfold Sp.bz
        rw [List.getD_eq_getElem?_getD, List.getElem?_replicate, if_pos (by omega)]
        rfl
      rw [st_op h0, e, psh_0]
      exact Nat.zero_le _
    · rw [st_push h0]
      show (Cd.st _ (a.length + j)).2 - 1 ≤ _
      omega
/-- Code that has room behind it for what its last operation has behind it. -/
def pad (a : List UInt8) : List UInt8 := a ++ List.replicate 32 0
theorem pad_len (a : List UInt8) : (pad a).length = a.length + 32 := by unfold pad; simp
theorem pad_st (a : List UInt8) : (Cd.st (pad a) (pad a).length).2 = 0 := by
  have := st_zeros a 32 32 (Nat.le_refl _)
  rw [pad_len]
  unfold pad
  omega
theorem land_join (A b : List UInt8) (h0 : (Cd.st A A.length).2 = 0) : (Cd.st (A ++ b) (A.length + b.length)).1 = (Cd.st A A.length).1 ++ (Cd.st b b.length).1.map (· + A.length) := by rw [st_right A b h0]
theorem dis_join (A b : List UInt8) (h0 : (Cd.st A A.length).2 = 0) : ∀ (n i : Nat), A.length - i ≤ n → i ≤ A.length → (Cd.st A i).2 = 0 → dis ((A ++ b).drop i) = dis (A.drop i) ++ dis b
  | n, i, hn, hi, hz => by
    by_cases e : i = A.length
    · subst e
      rw [List.drop_left, List.drop_eq_nil_of_le (Nat.le_refl _), dis_nil, List.nil_append]
    · match n, hn with
      | 0, hn => exact absurd hn (by omega)
      | n + 1, hn =>
        have hlt : i < A.length := by omega
        have hlt2 : i < (A ++ b).length := by rw [List.length_append]; omega
        obtain ⟨a1, a2, a3⟩ := nx_in A i hlt
        obtain ⟨c1, c2, c3⟩ := nx_in (A ++ b) i hlt2
        have ebz : Sp.bz (A ++ b) i = Sp.bz A i := by rw [bz_app, if_pos hlt]
        have hroom : i + 1 + psh (Sp.bz A i) ≤ A.length := by
          refine Classical.byContradiction fun hc => ?_
          have e1 := st_op hz
          have k := st_skip A (i + 1) (A.length - i - 1) (by rw [e1]; show A.length - i - 1 ≤ psh _; omega)
          rw [show i + 1 + (A.length - i - 1) = A.length by omega, e1] at k
          rw [k] at h0
          have h0 : psh (Sp.bz A i) - (A.length - i - 1) = 0 := h0
          omega
        have en : nx A i = i + 1 + psh (Sp.bz A i) := by rw [a3, Nat.min_eq_left hroom]
        have em : nx (A ++ b) i = nx A i := by rw [c3, ebz, en, List.length_append, Nat.min_eq_left (by omega)]
        have ebh : bh (A ++ b) i = bh A i := by
          unfold bh
          rw [em, List.drop_append_of_le_length (by omega), List.take_append_of_le_length (by rw [List.length_drop]; omega)]
        have hz2 : (Cd.st A (nx A i)).2 = 0 := by
          have e1 := st_op hz
          have k := st_skip A (i + 1) (psh (Sp.bz A i)) (by rw [e1]; exact Nat.le_refl _)
          rw [← en, e1] at k
          rw [k]
          show psh _ - psh _ = 0
          omega
        rw [dis_step _ i hlt2, dis_step A i hlt, ebz, ebh, em, List.cons_append, dis_join A b h0 n (nx A i) (by omega) a2 hz2]
end Cd
end Go.Proofs.YtmlddefoehgofabDoor
/- code: a line at its blank; operations by their names. -/
namespace Go.Proofs.YtmlddefoehgofabDoor
namespace Cd
open Go.RowKit Go.Maps
theorem cutB_ix : ∀ l : List UInt8, (Lib.indexByte l 32 = -1 ∧ cutB l = (l, [], false)) ∨ ∃ i : Nat, i < l.length ∧ Lib.indexByte l 32 = (i : Int) ∧ cutB l = (l.take i, l.drop (i + 1), true)
  | [] => .inl ⟨rfl, rfl⟩
  | c :: r => by
    by_cases h : c = 32
    · subst h
      exact .inr ⟨0, by simp, rfl, rfl⟩
    · have hb : (c == 32) = false := by simpa using h
      rcases cutB_ix r with ⟨h1, h2⟩ | ⟨i, h0, h1, h2⟩
      · refine .inl ⟨?_, by rw [cutB, if_neg h, h2]⟩
        rw [Lib.indexByte, hb, h1]
        rfl
      · refine .inr ⟨i + 1, by simp; omega, ?_, by rw [cutB, if_neg h, h2]; rfl⟩
        rw [Lib.indexByte, hb, h1]
        have e : ((i : Int) == -1) = false := by
          rw [beq_eq_false_iff_ne]; omega
        rw [e]
        rfl
theorem ext_tk (l : List UInt8) (i : Nat) : (sb l).extract 0 i = sb (l.take i) := by
  unfold sb
  apply ByteArray.ext
  rw [ByteArray.data_extract]
  simp
theorem ext_dp (l : List UInt8) (i n : Nat) (hn : n = l.length) : (sb l).extract i n = sb (l.drop i) := by
  unfold sb
  apply ByteArray.ext
  rw [ByteArray.data_extract, hn]
  simp
  exact List.take_of_length_le (by simp)
theorem sb_size (l : List UInt8) : (sb l).size = l.length := by simp [sb, ByteArray.size]
set_option maxRecDepth 100000 in
theorem cuts_none (l : List UInt8) (h1 : Lib.indexByte l 32 = -1) (w : World) : Calls Tryd.prog 36 #[.string (sb l), .string ⟨#[32]⟩] w fun e w' => e = .returned (.tuple #[.string (sb l), .string ⟨#[]⟩, .bool false]) ∧ Below w.heap.size w w' := by
  have KI : Hid (∀ W : World, Calls Tryd.prog 39 #[.string (sb l), .string ⟨#[32]⟩] W fun e w' => e = .returned (.int .i64 (-1)) ∧ Below W.heap.size W w') := fun W => (Tryd.stringslite_Index_one (sb l) 32 W).mono fun e w' he => ⟨by rw [he.1]; show Ending.returned (.int .i64 (Lib.indexByte l 32)) = _; rw [h1], by rw [he.2]; exact Below.refl _ _⟩
  clear h1
  generalize sb l = N at *
  go_enter Tryd.func36, Tryd.ntmps36
  go_wp2_with fail
  refine (KI.out w).mono ?_
  rintro e w1 ⟨rfl, b1⟩
  have B1 : Hid _ := b1
  clear b1
  go_wp2_with fail
  go_ret3
  exact ⟨rfl, B1.out⟩
set_option maxRecDepth 100000 in
theorem cuts_at (l : List UInt8) (i : Nat) (h0 : i < l.length) (hz : Hid (l.length ≤ 2097154)) (h1 : Lib.indexByte l 32 = (i : Int)) (w : World) : Calls Tryd.prog 36 #[.string (sb l), .string ⟨#[32]⟩] w fun e w' => e = .returned (.tuple #[.string (sb (l.take i)), .string (sb (l.drop (i + 1))), .bool true]) ∧ Below w.heap.size w w' := by
  have KI : Hid (∀ W : World, Calls Tryd.prog 39 #[.string (sb l), .string ⟨#[32]⟩] W fun e w' => e = .returned (.int .i64 (i : Int)) ∧ Below W.heap.size W w') := fun W => (Tryd.stringslite_Index_one (sb l) 32 W).mono fun e w' he => ⟨by rw [he.1]; show Ending.returned (.int .i64 (Lib.indexByte l 32)) = _; rw [h1], by rw [he.2]; exact Below.refl _ _⟩
  have hsz := sb_size l
  obtain ⟨n, hn⟩ : ∃ n, n = l.length := ⟨_, rfl⟩
  obtain ⟨r, hr⟩ : ∃ r : Nat, r = i + 1 := ⟨_, rfl⟩
  have x1 := ext_tk l i
  have x2 := ext_dp l r n hn
  rw [← hn] at h0 hsz
  rw [← hr]
  have wi : IntKind.i64.wrap ((i : Int) + 1) = (r : Int) := by rw [IntKind.wrap_i64]; have := hz.out; omega
  have i0 : (0 : Int) ≤ (i : Int) := by omega
  have i1 : (i : Int) ≤ (n : Int) := by omega
  have i2 : i ≤ n := by omega
  have i3 : (r : Int) ≤ (n : Int) := by omega
  have i4 : r ≤ n := by omega
  generalize sb (l.take i) = N1 at *
  generalize sb (l.drop r) = N2 at *
  generalize sb l = N at *
  clear hn hr h0 h1 hz
  go_enter Tryd.func36, Tryd.ntmps36
  go_wp2_with fail
  refine (KI.out w).mono ?_
  rintro e w1 ⟨rfl, b1⟩
  have B1 : Hid _ := b1
  clear b1
  go_upto_region 3 with fail
  refine RS.wp_region_one (fun wx => Below w1.heap.size w1 wx) (by kernel_rfl) (by kernel_rfl) ((Below.refl _ _).drew) ?_
  dsimp only [List.toList_toArray]
  refine RS.go1 (v := ?_) (a' := ?_) rfl ?_ ?_ ?_
  rotate_left 2
  · intro K wx hS hK
    go_simp
    exact hK _ hS
  · simp only [Act.put, List.setIfInBounds_toArray, List.set_cons_succ, List.set_cons_zero]
    rfl
  refine RS.go1 (v := ?_) (a' := ?_) rfl ?_ ?_ ?_
  rotate_left 2
  · intro K wx hS hK
    go_simp
    exact hK _ hS
  · simp only [Act.put, List.setIfInBounds_toArray, List.set_cons_succ, List.set_cons_zero]
    rfl
  refine RS.go1 (v := ?_) (a' := ?_) rfl ?_ ?_ ?_
  rotate_left 2
  · intro K wx hS hK
    go_simp
    exact hK _ hS
  · simp only [Act.put, List.setIfInBounds_toArray, List.set_cons_succ, List.set_cons_zero]
    rfl
  refine RS.go1 (v := ?_) (a' := ?_) rfl ?_ ?_ ?_
  rotate_left 2
  · intro K wx hS hK
    go_simp
    exact hK _ hS
  · simp only [Act.put, List.setIfInBounds_toArray, List.set_cons_succ, List.set_cons_zero]
    rfl
  refine RS.go1 (v := ?_) (a' := ?_) rfl ?_ ?_ ?_
  rotate_left 2
  · intro K wx hS hK
    go_simp
    exact hK _ hS
  · simp only [Act.put, List.setIfInBounds_toArray, List.set_cons_succ, List.set_cons_zero]
    rfl
  refine RS.go1 (v := ?_) (a' := ?_) rfl ?_ ?_ ?_
  rotate_left 2
  · intro K wx hS hK
    go_simp
    exact hK _ hS
  · simp only [Act.put, List.setIfInBounds_toArray, List.set_cons_succ, List.set_cons_zero]
    rfl
  refine RS.go1 (v := ?_) (a' := ?_) rfl ?_ ?_ ?_
  rotate_left 2
  · intro K wx hS hK
    go_simp
    exact hK _ hS
  · simp only [Act.put, List.setIfInBounds_toArray, List.set_cons_succ, List.set_cons_zero]
    rfl
  refine RS.go1 (v := ?_) (a' := ?_) rfl ?_ ?_ ?_
  rotate_left 2
  · intro K wx hS hK
    go_simp
    exact hK _ hS
  · simp only [Act.put, List.setIfInBounds_toArray, List.set_cons_succ, List.set_cons_zero]
    rfl
  refine RS.go1 (v := ?_) (a' := ?_) rfl ?_ ?_ ?_
  rotate_left 2
  · intro K wx hS hK
    go_simp
    exact hK _ hS
  · simp only [Act.put, List.setIfInBounds_toArray, List.set_cons_succ, List.set_cons_zero]
    rfl
  refine RS.go1 (v := ?_) (a' := ?_) rfl ?_ ?_ ?_
  rotate_left 2
  · intro K wx hS hK
    go_simp
    exact hK _ hS
  · simp only [Act.put, List.setIfInBounds_toArray, List.set_cons_succ, List.set_cons_zero]
    rfl
  refine RS.go1 (v := ?_) (a' := ?_) rfl ?_ ?_ ?_
  rotate_left 2
  · intro K wx hS hK
    go_simp
    exact hK _ hS
  · simp only [Act.put, List.setIfInBounds_toArray, List.set_cons_succ, List.set_cons_zero]
    rfl
  refine RS.go1 (v := ?_) (a' := ?_) rfl ?_ ?_ ?_
  rotate_left 2
  · intro K wx hS hK
    go_simp
    exact hK _ hS
  · simp only [Act.put, List.setIfInBounds_toArray, List.set_cons_succ, List.set_cons_zero]
    rfl
  refine RS.go_end ?_
  intro w9 h9
  have H9 : Hid (Below w.heap.size w w9) := B1.out.trans (h9.mono B1.out.size)
  clear h9
  go_wp2_with fail
  go_ret3
  exact ⟨rfl, H9.out⟩
theorem cut_any (l : List UInt8) (hz : Hid (l.length ≤ 2097154)) (w : World) : Calls Tryd.prog 31 #[.string (sb l), .string ⟨#[32]⟩] w fun e w' => e = .returned (.tuple #[.string (sb (cutB l).1), .string (sb (cutB l).2.1), .bool (cutB l).2.2]) ∧ Below w.heap.size w w' := by
  have K : Hid (Calls Tryd.prog 36 #[.string (sb l), .string ⟨#[32]⟩] w fun e w' => e = .returned (.tuple #[.string (sb (cutB l).1), .string (sb (cutB l).2.1), .bool (cutB l).2.2]) ∧ Below w.heap.size w w') := by
    rcases cutB_ix l with ⟨h1, h2⟩ | ⟨i, h0, h1, h2⟩
    · rw [h2]; exact cuts_none l h1 w
    · rw [h2]; exact cuts_at l i h0 hz h1 w
  generalize sb (cutB l).1 = N1 at *
  generalize sb (cutB l).2.1 = N2 at *
  generalize (cutB l).2.2 = t at *
  generalize sb l = N at *
  go_enter Tryd.func31, Tryd.ntmps31
  go_wp2_with fail
  refine K.out.mono ?_
  rintro e w1 ⟨rfl, b1⟩
  have B1 : Hid _ := b1
  clear b1
  go_wp2_with fail
  go_ret3
  exact ⟨rfl, B1.out⟩
/-- The operations by their names, as a map reads. -/
def Db : Nat → DataW Unit
  | 0 => .map []
  | k + 1 => if nm k = [] then Db k else (Db k).put (.string (nm k)) (.lit (.int .u8 (k : Int)))
theorem Db_map : ∀ k, IsMap (Db k)
  | 0 => isMap_empty
  | k + 1 => by
    rw [Db]
    split
    · exact Db_map k
    · exact (Db_map k).put _ _
theorem nm_one {x y : Nat} (hx : x < 256) (hy : y < 256) (h : nm x ≠ []) (e : nm x = nm y) : x = y := by
  have a := inv_nm x hx h
  rw [e, inv_nm y hy (by rw [← e]; exact h)] at a
  exact (Option.some.inj a).symm
theorem KL (l : List UInt8) : WideAt.IsKeyLit (.string l) := trivial
theorem Db_not (l : List UInt8) : ∀ k, (∀ x, x < k → nm x = l → nm x = []) → Maps.has (Db k) (.string l) = false
  | 0, _ => rfl
  | k + 1, h => by
    rw [Db]
    split
    · exact Db_not l k (fun x hx => h x (by omega))
    · rename_i hn
      rw [Maps.has_put_other (by intro e; injection e with e; exact hn (h k (by omega) e.symm))]
      exact Db_not l k (fun x hx => h x (by omega))
theorem Db_at (x : Nat) (hx : x < 256) (hn : nm x ≠ []) : ∀ k, k ≤ 256 → x < k → Maps.has (Db k) (.string (nm x)) = true ∧ ∀ z, (Db k).atKey (.string (nm x)) z = .lit (.int .u8 (x : Int))
  | 0, _, h => absurd h (Nat.not_lt_zero _)
  | k + 1, hk, h => by
    rw [Db]
    by_cases e : x = k
    · subst e
      rw [if_neg hn]
      exact ⟨Maps.has_put_same (Db_map x) (KL _) _, fun z => Maps.atKey_put_same (Db_map x) (KL _) _ z⟩
    · obtain ⟨h1, h2⟩ := Db_at x hx hn k (by omega) (by omega)
      split
      · exact ⟨h1, h2⟩
      · have hne : (Lit.string (nm x)) ≠ Lit.string (nm k) := by
          intro q
          injection q with q
          exact e (nm_one hx (by omega) hn q)
        exact ⟨by rw [Maps.has_put_other hne]; exact h1, fun z => by rw [Maps.atKey_put_other hne]; exact h2 z⟩
/-- A map that has the operations by their names. -/
def Om (b : Nat) (w : World) : Prop := w.ownsMap Tryd.prog 9 (plainElem (H := Unit) Tryd.prog 5) b 256 (Db 256)
theorem Om_below {b : Nat} {w w' : World} (h : Om b w) (hb : Below w.heap.size w w') : Om b w' := h.kept (⟨hb.os, hb.tape, hb.output, hb.size, fun j hj _ => hb.block j hj⟩ : w.grownBy w' none) (by simp)
theorem lawS : Keyed Tryd.prog 9 := string_keyed Tryd.underlying9
theorem zeroU8 (w : World) : (zeroValue 5).run Tryd.prog w = .ok (.int .u8 0) w := by kernel_rfl
theorem u8wf (k : Nat) (h : k < 256) : (Lit.int .u8 (k : Int)).wf = true := by
  exact WalkArith.wf_u8 (by omega)
set_option maxHeartbeats 1000000 in
set_option maxRecDepth 100000 in
theorem ops_any (w : World) : Calls Tryd.prog 25 #[] w fun e w' => ∃ b, e = .returned (.map (some b)) ∧ Om b w' ∧ Below w.heap.size w w' := by
  have hmm := @run_makeMap Tryd.prog
  go_enter Tryd.func25, Tryd.ntmps25
  go_wp2_with fail
  go_loopw [5] (fun p wr => ∃ k : Nat, k ≤ 256 ∧ p = .int .i64 (k : Int) ∧ wr.ownsMap Tryd.prog 9 (plainElem (H := Unit) Tryd.prog 5) w.heap.size k (Db k) ∧ Below w.heap.size w wr) (fun p _ => ((256 : Int) - intOf p).toNat)
  case atStart => exact ⟨0, Nat.zero_le _, rfl, World.ownsMap_made _ _ _ _, (Below.refl _ _).alloc (Nat.le_refl _) _⟩
  case round =>
    obtain ⟨k, hk, rfl, hown, hb⟩ := hrel
    by_cases hlt : k < 256
    · have d1 : (k : Int) < 256 := by omega
      have u1 : IntKind.u8.wrap (k : Int) = (k : Int) := by show (k : Int) % 256 = _; omega
      have hw : Hid (wrap64 ((k : Int) + 1) = ((k + 1 : Nat) : Int)) := by show _ = _; unfold wrap64; omega
      have KN : Hid (Calls Tryd.prog 13 #[.int .u8 (k : Int)] wr fun e w' => e = .returned (.string (sb (nm k))) ∧ Below wr.heap.size wr w') := name_any k hlt wr
      have HO : Hid (wr.ownsMap Tryd.prog 9 (plainElem (H := Unit) Tryd.prog 5) w.heap.size k (Db k)) := hown
      have HB : Hid (Below w.heap.size w wr) := hb
      clear hown hb
      go_wp2_with fail
      refine KN.out.mono ?_
      rintro e w2 ⟨rfl, b2⟩
      have o2 : w2.ownsMap Tryd.prog 9 (plainElem (H := Unit) Tryd.prog 5) w.heap.size k (Db k) := World.ownsMap.kept HO.out (⟨b2.os, b2.tape, b2.output, b2.size, fun j hj _ => b2.block j hj⟩ : wr.grownBy w2 none) (by simp)
      have B2 : Hid (Below w.heap.size w w2) := HB.out.trans (b2.mono HB.out.size)
      clear b2 HO HB KN
      by_cases hn : nm k = []
      · have e0 : (sb (nm k)).toList.isEmpty = true := by rw [hn, sb_list]; rfl
        have O2 : Hid (w2.ownsMap Tryd.prog 9 (plainElem (H := Unit) Tryd.prog 5) w.heap.size (k + 1) (Db (k + 1))) := by
          show World.ownsMap _ _ _ _ _ _ _
          rw [Db, if_pos hn]
          exact o2.mono (Nat.le_succ _)
        clear o2 hn
        generalize sb (nm k) = N at *
        have hw := hw.out
        go_wp2_with fail
        go_roundw
        case rel => exact ⟨k + 1, hlt, rfl, O2.out, B2.out⟩
        case measure =>
          show ((256 : Int) - ((k + 1 : Nat) : Int)).toNat < ((256 : Int) - (k : Int)).toNat
          omega
      · have e0 := sb_ne hn
        have hkey : keyOf Tryd.prog 9 (.string (sb (nm k))) = some (.string (nm k)) := Go.WideMaps.keyOf_string_mk Tryd.underlying9 (by rw [sb_size]; have := nm_len k; unfold maxLen; omega)
        have HD : Hid ((Db k).put (.string (nm k)) (.lit (.int .u8 (k : Int))) = Db (k + 1)) := by
          show _ = _
          rw [Db, if_neg hn]
        clear hn
        generalize sb (nm k) = N at *
        have hw := hw.out
        go_wp2_with (at_mapUpdate; refine wpList_mapUpdate_own _ rfl _ _ _ 47 rfl 9 5 lawS Tryd.underlying47 _ w.heap.size k _ rfl o2 (by unfold maxLen; omega) _ _ _ rfl rfl hkey _ [] (plainElem_int Tryd.underlying5 (u8wf k hlt)) ?_; intro w3 o3 g3)
        have O3 : Hid (w3.ownsMap Tryd.prog 9 (plainElem (H := Unit) Tryd.prog 5) w.heap.size (k + 1) (Db (k + 1))) := by
          rw [← HD.out]; exact o3
        have B3 : Hid (Below w.heap.size w w3) := B2.out.grown g3 B2.out.size (fun j hj => by cases hj; exact Nat.le_refl _)
        clear o3 g3 o2 HD B2
        go_wp2_with fail
        go_roundw
        case rel => exact ⟨k + 1, hlt, rfl, O3.out, B3.out⟩
        case measure =>
          show ((256 : Int) - ((k + 1 : Nat) : Int)).toNat < ((256 : Int) - (k : Int)).toNat
          omega
    · obtain rfl : k = 256 := by omega
      have O2 : Hid (Om w.heap.size wr) := hown
      have HB : Hid (Below w.heap.size w wr) := hb
      clear hown hb
      go_wp2_with fail
      go_ret
      exact ⟨_, rfl, O2.out, HB.out⟩
end Cd
end Go.Proofs.YtmlddefoehgofabDoor
/- code: what a line is read as. -/
namespace Go.Proofs.YtmlddefoehgofabDoor
namespace Cd
open Go.RowKit Go.Maps
def nml (l : List UInt8) : Option (Nat × List UInt8) := match prs l with
  | some [b] => if nm b.toNat = [] then some (b.toNat, []) else none
  | _ => none
def psl (x : Nat) (l : List UInt8) : Option (Nat × List UInt8) := match prs l with
  | some b => if psh (x : Int) = 0 ∨ psh (x : Int) < b.length then none else some (x, b)
  | none => none
theorem rdl_eq (l : List UInt8) : rdl l = match inv (cutB l).1 with
  | none => nml l
  | some x => if (cutB l).2.2 then psl x (cutB l).2.1 else if psh (x : Int) = 0 then some (x, []) else none := by
  unfold rdl nml psl
  cases inv (cutB l).1 with
  | none => rfl
  | some x => rfl
theorem sl_nil (w : World) : Sl [] (.slice none 0 0) w := ⟨none, 0, rfl, Nat.le_refl _, Sp.Vw_nil _ _⟩
/-- A slice of bytes of a call's own. -/
def Sn (B : Nat) (b : List UInt8) (ao : Option Addr) (cap : Nat) (w : World) : Prop := Sl b (.slice ao b.length cap) w ∧ ∀ a, ao = some a → B ≤ a.block
theorem Sn_below {B : Nat} {b : List UInt8} {ao : Option Addr} {cap : Nat} {w w' : World} (h : Sn B b ao cap w) (hb : Below w.heap.size w w') : Sn B b ao cap w' := ⟨Sl_below h.1 hb, h.2⟩
theorem Sn_set {B : Nat} {b : List UInt8} {ao : Option Addr} {cap : Nat} {w : World} {g i : Nat} {u : Value} (h : Sn B b ao cap w) (hg : g < B) : Sn B b ao cap (w.setCell ⟨g, i, none⟩ u) := by
  refine ⟨?_, h.2⟩
  obtain ⟨a1, c1, e1, h1, h2⟩ := h.1
  injection e1 with e1 e2 e3
  subst e1 e3
  refine ⟨ao, cap, rfl, h1, fun h0 => ?_⟩
  obtain ⟨k, off, rfl, hk, hc⟩ := h2 h0
  have hB := h.2 _ rfl
  refine ⟨k, off, rfl, by simpa using hk, fun j hj => ?_⟩
  rw [World.cell?_setCell_other _ _ _ _ (by intro e; injection e with e; have : B ≤ k := hB; omega)]
  exact hc j hj
theorem Sn_nil (B : Nat) (w : World) : Sn B [] none 0 w := ⟨sl_nil w, fun _ h => by cases h⟩
theorem Sn_mono {B C : Nat} {b : List UInt8} {ao : Option Addr} {cap : Nat} {w : World} (h : Sn B b ao cap w) (hc : C ≤ B) : Sn C b ao cap w := ⟨h.1, fun a ha => Nat.le_trans hc (h.2 a ha)⟩
/-- What a reader of lines answers. -/
def RL (r : Option (Nat × List UInt8)) (w : World) (e : Ending) (w' : World) : Prop := ∃ (y : Int) (ao : Option Addr) (n cap : Nat), e = .returned (.tuple #[.agg #[.int .u8 y, .slice ao n cap], .bool r.isSome]) ∧ (∀ x b, r = some (x, b) → y = (x : Int) ∧ n = b.length ∧ Sn w.heap.size b ao cap w') ∧ Below w.heap.size w w'
/-- What hex.Parse answers. -/
def KPS (l : List UInt8) : Prop := ∀ W : World, Calls Tryd.prog 37 #[.string (sb l)] W fun e w' => ∃ (ao : Option Addr) (cap : Nat) (b : List UInt8) (c : Int), e = .returned (.tuple #[.slice ao b.length cap, .int .i64 c]) ∧ Sn W.heap.size b ao cap w' ∧ ((prs l = some b ∧ c = 0) ∨ (prs l = none ∧ c = 1 ∧ b = [])) ∧ Below W.heap.size W w'
theorem kps (l : List UInt8) (hn : Hid (l.length ≤ 2097154)) : KPS l := fun W => by
  by_cases hb : l.length < 2 ∨ l.take 2 ≠ [48, 120] ∨ l.length % 2 = 1
  · refine (parse_form l hb W).mono fun e w' he => ⟨none, 0, [], 1, he.1, Sn_nil _ _, .inr ⟨?_, rfl, rfl⟩, by rw [he.2]; exact Below.refl _ _⟩
    unfold prs
    rw [if_neg]
    intro h
    have h2 : 2 ≤ l.length := by have := congrArg List.length h.1; simp at this; omega
    rcases hb with h1 | h1 | h1
    · omega
    · exact h1 h.1
    · have := h.2.1; omega
  · have hp : l.take 2 = [48, 120] := by
      by_cases h : l.take 2 = [48, 120]
      · exact h
      · exact absurd (.inr (.inl h)) hb
    obtain ⟨m, hm⟩ : ∃ m, l.length = 2 + 2 * m := ⟨(l.length - 2) / 2, by omega⟩
    have em : (l.length - 2) / 2 = m := by omega
    refine (parse_any2 l m hm hp hn W).mono fun e w' he => ?_
    obtain ⟨⟨hG, v, rfl, ho⟩ | ⟨hG, rfl⟩, hbel⟩ := he
    · have hP : prs l = some (bl l m) := by
        unfold prs
        rw [if_pos (show Ps l from ⟨hp, by omega, by rw [em]; exact hG⟩), em]
      have hs := Sl_row ho hG
      have hs2 := hs
      obtain ⟨ao, cap, rfl, _, _⟩ := hs2
      refine ⟨ao, cap, _, 0, rfl, ⟨hs, fun a ha => ?_⟩, .inl ⟨hP, rfl⟩, hbel⟩
      subst ha
      rcases ho.2 with ⟨h3, _⟩ | ⟨g, cap', cur, h3, _⟩
      · cases h3
      · injection h3 with e1 e2 e3
        injection e1 with e1
        subst e1
        exact (Sp.own_lo ho g rfl).1
    · have hP : prs l = none := by
        unfold prs
        rw [if_neg (fun h : Ps l => hG (by have := h.2.2; rwa [em] at this))]
      exact ⟨none, 0, [], 1, rfl, Sn_nil _ _, .inr ⟨hP, rfl, rfl⟩, hbel⟩
/-- The variable of a reader's answer. -/
structure Bx (B g : Nat) (w : World) : Prop where
  lo : B ≤ g
  hi : g < w.heap.size
  c0 : ∃ v, w.cell? ⟨g, 0, none⟩ = some v
  c1 : ∃ v, w.cell? ⟨g, 1, none⟩ = some v
  f0 : w.frozen? ⟨g, 0, none⟩ = false
  f1 : w.frozen? ⟨g, 1, none⟩ = false
theorem Bx_below {B g : Nat} {w w' : World} (h : Bx B g w) (hb : Below w.heap.size w w') : Bx B g w' :=
  ⟨h.lo, Nat.lt_of_lt_of_le h.hi hb.size, by obtain ⟨v, e⟩ := h.c0; exact ⟨v, (hb.cell (p := ⟨g, 0, none⟩) h.hi).trans e⟩, by obtain ⟨v, e⟩ := h.c1; exact ⟨v, (hb.cell (p := ⟨g, 1, none⟩) h.hi).trans e⟩, (hb.frozen (p := ⟨g, 0, none⟩) h.hi).trans h.f0, (hb.frozen (p := ⟨g, 1, none⟩) h.hi).trans h.f1⟩
theorem Bx_new (w : World) : Bx w.heap.size w.heap.size (w.alloc (.cells #[.int .u8 0, .slice none 0 0] 43)) :=
  ⟨Nat.le_refl _, by simp, ⟨.int .u8 0, by simp⟩, ⟨.slice none 0 0, by simp⟩, by simp [go_sem], by simp [go_sem]⟩
theorem set2_below {w w1 : World} {g : Nat} {u v : Value} (h : Below w.heap.size w w1) (hg : w.heap.size ≤ g) : Below w.heap.size w ((w1.setCell ⟨g, 0, none⟩ u).setCell ⟨g, 1, none⟩ v) := (h.setCell hg _).setCell hg _
theorem get0 {W : World} {g : Nat} {a b v : Value} (h : W.cell? ⟨g, 0, none⟩ = some v) : ((W.setCell ⟨g, 0, none⟩ a).setCell ⟨g, 1, none⟩ b).cell? ⟨g, 0, none⟩ = some a := by
  rw [World.cell?_setCell_other _ _ _ _ (by simp)]
  exact World.cell?_setCell_same _ _ _ h
theorem get1 {W : World} {g : Nat} {a b v : Value} (h : W.cell? ⟨g, 1, none⟩ = some v) : ((W.setCell ⟨g, 0, none⟩ a).setCell ⟨g, 1, none⟩ b).cell? ⟨g, 1, none⟩ = some b := by
  refine World.cell?_setCell_same (u := v) _ _ _ ?_
  rw [World.cell?_setCell_other _ _ _ _ (by simp)]
  exact h
theorem resO (f : Func) (tm : Array Value) (W : World) (g s z : Nat) (p q v : Value) (hf : f.results = #[.cell s 43, .tmp z]) (h : tm.getD s undef = .pointer (some ⟨g, 0, none⟩)) (h2 : tm.getD z undef = v) (c0 : W.cell? ⟨g, 0, none⟩ = some p) (c1 : W.cell? ⟨g, 1, none⟩ = some q) : (results f tm).run Tryd.prog W = .ok (.tuple #[.agg #[p, q], v]) W := by
  simp at h h2
  simp [results, hf, go_sem, h, h2, c0, c1]
set_option maxHeartbeats 1000000 in
set_option maxRecDepth 100000 in
theorem nameless_any (l : List UInt8) (hn : Hid (l.length ≤ 2097154)) (w : World) : Calls Tryd.prog 32 #[.string (sb l)] w (RL (nml l) w) := by
  have K : Hid (KPS l) := kps l hn
  obtain ⟨R, hR⟩ : ∃ R, Hid (R = nml l) := ⟨_, rfl⟩
  rw [← hR.out]
  clear hn
  go_enter Tryd.func32, Tryd.ntmps32
  go_wp2_with fail
  have b0 : Below w.heap.size w (w.alloc (.cells #[.int .u8 0, .slice none 0 0] 43)) := (Below.refl _ _).alloc (Nat.le_refl _) _
  have x0 := Bx_new w
  obtain ⟨g, hg⟩ : ∃ g, g = w.heap.size := ⟨_, rfl⟩
  rw [← hg] at x0
  generalize w.alloc (.cells #[.int .u8 0, .slice none 0 0] 43) = W0 at *
  rw [← hg]
  have HG : Hid (g = w.heap.size) := hg
  clear hg
  refine (K.out W0).mono ?_
  rintro e w1 ⟨ao, cap, b, c, rfl, hs, hc, b1⟩
  have X1 : Hid _ := Bx_below x0 b1
  have B1 : Hid (Below w.heap.size w w1) := b0.trans (b1.mono b0.size)
  rcases hc with ⟨hp, rfl⟩ | ⟨hp, rfl, rfl⟩
  · by_cases h1 : b.length = 1
    · obtain ⟨y, rfl⟩ : ∃ y, b = [y] := by
        match b, h1 with
        | [y], _ => exact ⟨y, rfl⟩
      obtain ⟨a2, cp2, ev, hcp, hvw⟩ := hs.1
      injection ev with ev1 ev2 ev3
      subst ev1 ev3
      obtain ⟨k, off, rfl, hk, hcy⟩ := hvw (by simp)
      have cy := hcy 0 (by simp)
      rw [Nat.add_zero] at cy
      have ey : Sp.bz [y] 0 = ((y.toNat : Nat) : Int) := rfl
      rw [ey] at cy
      have hy := y.toNat_lt
      have KN : Hid (∀ W : World, Calls Tryd.prog 13 #[.int .u8 (y.toNat : Int)] W fun e w' => e = .returned (.string (sb (nm y.toNat))) ∧ Below W.heap.size W w') := fun W => name_any _ hy W
      by_cases hn : nm y.toNat = []
      · have e1 : Hid (R = some (y.toNat, [])) := by show _ = _; rw [hR.out]; unfold nml; rw [hp]; dsimp only; rw [if_pos hn]
        have e0 : (sb (nm y.toNat)).toList.isEmpty = true := by rw [hn, sb_list]; rfl
        clear K hs hp x0 b0 hR ev2 hvw hcy ey hy hn h1
        generalize sb (nm y.toNat) = N at *
        generalize y.toNat = z at *
        go_wp2_with fail
        refine (KN.out w1).mono ?_
        rintro e w2 ⟨rfl, b2⟩
        have X2 : Hid _ := Bx_below X1.out b2
        have B2 : Hid (Below w.heap.size w w2) := B1.out.trans (b2.mono B1.out.size)
        have cy2 := (b2.cell (p := ⟨k, off, none⟩) hk).trans cy
        clear b1 b2 X1 B1 KN cy
        obtain ⟨v0, c0⟩ := X2.out.c0
        obtain ⟨v1, c1⟩ := X2.out.c1
        have f0 := X2.out.f0
        have f1 := X2.out.f1
        go_wp2_with fail
        try simp only [Exit.inBlock, Exit.then]
        refine bodyPost_ret (resO _ _ _ g 2 3 _ _ _ rfl rfl rfl (get0 c0) (get1 c1)) rfl ?_
        rw [e1.out]
        exact ⟨_, none, 0, 0, rfl, fun x b h => by
          injection h with h
          injection h with q1 q2
          subst q1 q2
          exact ⟨rfl, rfl, Sn_nil _ _⟩, set2_below B2.out (Nat.le_of_eq HG.out.symm)⟩
      · have e1 : Hid (R = none) := by show _ = _; rw [hR.out]; unfold nml; rw [hp]; dsimp only; rw [if_neg hn]
        have e0 := sb_ne hn
        clear K hs hp x0 b0 hR ev2 hvw hcy ey hy hn h1
        generalize sb (nm y.toNat) = N at *
        generalize y.toNat = z at *
        go_wp2_with fail
        refine (KN.out w1).mono ?_
        rintro e w2 ⟨rfl, b2⟩
        have X2 : Hid _ := Bx_below X1.out b2
        have B2 : Hid (Below w.heap.size w w2) := B1.out.trans (b2.mono B1.out.size)
        clear b1 b2 X1 B1 KN cy
        obtain ⟨v0, c0⟩ := X2.out.c0
        obtain ⟨v1, c1⟩ := X2.out.c1
        have f0 := X2.out.f0
        have f1 := X2.out.f1
        go_wp2_with fail
        try simp only [Exit.inBlock, Exit.then]
        refine bodyPost_ret (resO _ _ _ g 2 3 _ _ _ rfl rfl rfl (get0 c0) (get1 c1)) rfl ?_
        rw [e1.out]
        exact ⟨_, _, _, _, rfl, fun x b h => (by cases h), set2_below B2.out (Nat.le_of_eq HG.out.symm)⟩
    · have e1 : Hid (R = none) := by
        show _ = _
        rw [hR.out]
        unfold nml
        rw [hp]
        match b, h1 with
        | [], _ => rfl
        | [y], h1 => exact absurd rfl h1
        | _ :: _ :: _, _ => rfl
      have d1 : ¬ (b.length : Int) = 1 := by omega
      clear K hs hp x0 b1 b0 hR
      generalize b.length = m at *
      obtain ⟨v0, c0⟩ := X1.out.c0
      obtain ⟨v1, c1⟩ := X1.out.c1
      have f0 := X1.out.f0
      have f1 := X1.out.f1
      go_wp2_with fail
      try simp only [Exit.inBlock, Exit.then]
      refine bodyPost_ret (resO _ _ _ g 2 3 _ _ _ rfl rfl rfl (get0 c0) (get1 c1)) rfl ?_
      rw [e1.out]
      exact ⟨_, _, _, _, rfl, fun x b h => (by cases h), set2_below B1.out (Nat.le_of_eq HG.out.symm)⟩
  · have e1 : Hid (R = none) := by show _ = _; rw [hR.out]; unfold nml; rw [hp]
    clear K hs hp x0 b1 b0 hR
    obtain ⟨v0, c0⟩ := X1.out.c0
    obtain ⟨v1, c1⟩ := X1.out.c1
    have f0 := X1.out.f0
    have f1 := X1.out.f1
    go_wp2_with fail
    try simp only [Exit.inBlock, Exit.then]
    refine bodyPost_ret (resO _ _ _ g 2 3 _ _ _ rfl rfl rfl (get0 c0) (get1 c1)) rfl ?_
    rw [e1.out]
    exact ⟨_, _, _, _, rfl, fun x b h => (by cases h), set2_below B1.out (Nat.le_of_eq HG.out.symm)⟩
set_option maxHeartbeats 1000000 in
set_option maxRecDepth 100000 in
theorem push_any (x : Nat) (hx : x < 256) (l : List UInt8) (hn : Hid (l.length ≤ 2097154)) (w : World) : Calls Tryd.prog 33 #[.int .u8 (x : Int), .string (sb l)] w (RL (psl x l) w) := by
  have K : Hid (KPS l) := kps l hn
  have KU : Hid (∀ W : World, Calls Tryd.prog 28 #[.int .u8 (x : Int)] W fun e w' => e = .returned (.int .i64 (psh (x : Int) : Int)) ∧ Below W.heap.size W w') := fun W => pushed_any _ (by omega) (by omega) W
  obtain ⟨R, hR⟩ : ∃ R, Hid (R = psl x l) := ⟨_, rfl⟩
  rw [← hR.out]
  obtain ⟨P, hP⟩ : ∃ P, Hid (P = psh (x : Int)) := ⟨_, rfl⟩
  rw [← hP.out] at KU
  clear hn hx
  go_enter Tryd.func33, Tryd.ntmps33
  go_wp2_with fail
  have b0 : Below w.heap.size w (w.alloc (.cells #[.int .u8 0, .slice none 0 0] 43)) := (Below.refl _ _).alloc (Nat.le_refl _) _
  have x0 := Bx_new w
  obtain ⟨g, hg⟩ : ∃ g, g = w.heap.size := ⟨_, rfl⟩
  rw [← hg] at x0
  generalize w.alloc (.cells #[.int .u8 0, .slice none 0 0] 43) = W0 at *
  rw [← hg]
  have HG : Hid (g = w.heap.size) := hg
  clear hg
  refine (K.out W0).mono ?_
  rintro e w1 ⟨ao, cap, b, c, rfl, hs, hc, b1⟩
  have X1 : Hid _ := Bx_below x0 b1
  have B1 : Hid (Below w.heap.size w w1) := b0.trans (b1.mono b0.size)
  rcases hc with ⟨hp, rfl⟩ | ⟨hp, rfl, rfl⟩
  · by_cases h0 : P = 0
    · have e1 : Hid (R = none) := by show _ = _; rw [hR.out]; unfold psl; rw [hp]; dsimp only; rw [if_pos (.inl (by rw [← hP.out]; exact h0))]
      subst h0
      clear K hs hp x0 b0 b1 hR hP
      generalize b.length = m at *
      go_wp2_with fail
      refine (KU.out w1).mono ?_
      rintro e w2 ⟨rfl, b2⟩
      have X2 : Hid _ := Bx_below X1.out b2
      have B2 : Hid (Below w.heap.size w w2) := B1.out.trans (b2.mono B1.out.size)
      clear b2 X1 B1 KU
      obtain ⟨v0, c0⟩ := X2.out.c0
      obtain ⟨v1, c1⟩ := X2.out.c1
      have f0 := X2.out.f0
      have f1 := X2.out.f1
      go_wp2_with fail
      try simp only [Exit.inBlock, Exit.then]
      refine bodyPost_ret (resO _ _ _ g 4 5 _ _ _ rfl rfl rfl (get0 c0) (get1 c1)) rfl ?_
      rw [e1.out]
      exact ⟨_, _, _, _, rfl, fun x b h => (by cases h), set2_below B2.out (Nat.le_of_eq HG.out.symm)⟩
    have d0 : ¬ (P : Int) = 0 := by omega
    by_cases h1 : P < b.length
    · have e1 : Hid (R = none) := by show _ = _; rw [hR.out]; unfold psl; rw [hp]; dsimp only; rw [if_pos (.inr (by rw [← hP.out]; exact h1))]
      have d1 : (P : Int) < (b.length : Int) := by omega
      clear K hs hp x0 b0 b1 hR hP h0
      generalize b.length = m at *
      go_wp2_with fail
      refine (KU.out w1).mono ?_
      rintro e w2 ⟨rfl, b2⟩
      have X2 : Hid _ := Bx_below X1.out b2
      have B2 : Hid (Below w.heap.size w w2) := B1.out.trans (b2.mono B1.out.size)
      clear b2 X1 B1
      go_wp2_with fail
      refine (KU.out w2).mono ?_
      rintro e w3 ⟨rfl, b2⟩
      have X3 : Hid _ := Bx_below X2.out b2
      have B3 : Hid (Below w.heap.size w w3) := B2.out.trans (b2.mono B2.out.size)
      clear b2 X2 B2 KU
      obtain ⟨v0, c0⟩ := X3.out.c0
      obtain ⟨v1, c1⟩ := X3.out.c1
      have f0 := X3.out.f0
      have f1 := X3.out.f1
      go_wp2_with fail
      try simp only [Exit.inBlock, Exit.then]
      refine bodyPost_ret (resO _ _ _ g 4 5 _ _ _ rfl rfl rfl (get0 c0) (get1 c1)) rfl ?_
      rw [e1.out]
      exact ⟨_, _, _, _, rfl, fun x b h => (by cases h), set2_below B3.out (Nat.le_of_eq HG.out.symm)⟩
    · have e1 : Hid (R = some (x, b)) := by show _ = _; rw [hR.out]; unfold psl; rw [hp]; dsimp only; rw [if_neg (by rw [← hP.out]; omega)]
      have d1 : ¬ (P : Int) < (b.length : Int) := by omega
      have HL : Hid (g < W0.heap.size ∧ w.heap.size ≤ W0.heap.size) := ⟨x0.hi, b0.size⟩
      have S1 : Hid _ := hs
      obtain ⟨m, HM⟩ : ∃ m, Hid (m = b.length) := ⟨_, rfl⟩
      have q0 : ((P : Int) == 0) = false := by rw [beq_eq_false_iff_ne]; omega
      have q1 : decide (P < m) = false := decide_eq_false (by rw [HM.out]; exact h1)
      rw [← HM.out] at d1 ⊢
      clear K hs hp x0 b0 b1 hR hP h0 h1
      go_wp2_with fail
      refine (KU.out w1).mono ?_
      rintro e w2 ⟨rfl, b2⟩
      have X2 : Hid _ := Bx_below X1.out b2
      have B2 : Hid (Below w.heap.size w w2) := B1.out.trans (b2.mono B1.out.size)
      have S2 : Hid _ := Sn_below S1.out b2
      clear b2 X1 B1 S1
      go_wp2_with fail
      refine (KU.out w2).mono ?_
      rintro e w3 ⟨rfl, b2⟩
      have X3 : Hid _ := Bx_below X2.out b2
      have B3 : Hid (Below w.heap.size w w3) := B2.out.trans (b2.mono B2.out.size)
      have S3 : Hid _ := Sn_below S2.out b2
      clear b2 X2 B2 KU S2
      obtain ⟨v0, c0⟩ := X3.out.c0
      obtain ⟨v1, c1⟩ := X3.out.c1
      have f0 := X3.out.f0
      have f1 := X3.out.f1
      go_wp2_with fail
      try simp only [Exit.inBlock, Exit.then]
      refine bodyPost_ret (resO _ _ _ g 4 5 _ _ _ rfl rfl rfl (get0 c0) (get1 c1)) rfl ?_
      rw [e1.out]
      exact ⟨_, _, _, _, rfl, fun x b h => by
        injection h with h
        injection h with q1 q2
        subst q1 q2
        exact ⟨rfl, HM.out, Sn_mono (Sn_set (Sn_set S3.out HL.out.1) HL.out.1) HL.out.2⟩, set2_below B3.out (Nat.le_of_eq HG.out.symm)⟩
  · have e1 : Hid (R = none) := by show _ = _; rw [hR.out]; unfold psl; rw [hp]
    clear K hs hp x0 b1 b0 hR hP KU
    obtain ⟨v0, c0⟩ := X1.out.c0
    obtain ⟨v1, c1⟩ := X1.out.c1
    have f0 := X1.out.f0
    have f1 := X1.out.f1
    go_wp2_with fail
    try simp only [Exit.inBlock, Exit.then]
    refine bodyPost_ret (resO _ _ _ g 4 5 _ _ _ rfl rfl rfl (get0 c0) (get1 c1)) rfl ?_
    rw [e1.out]
    exact ⟨_, _, _, _, rfl, fun x b h => (by cases h), set2_below B1.out (Nat.le_of_eq HG.out.symm)⟩
end Cd
end Go.Proofs.YtmlddefoehgofabDoor
/- code.readLine. -/
namespace Go.Proofs.YtmlddefoehgofabDoor
namespace Cd
open Go.RowKit Go.Maps
theorem cutB_le : ∀ l : List UInt8, (cutB l).1.length ≤ l.length ∧ (cutB l).2.1.length ≤ l.length
  | [] => ⟨Nat.le_refl _, Nat.le_refl _⟩
  | c :: r => by
    have ih := cutB_le r
    rw [cutB]
    split
    · exact ⟨Nat.zero_le _, by simp⟩
    · exact ⟨by simp; omega, by simp; omega⟩
theorem has_no {l : List UInt8} (h : inv l = none) : Maps.has (Db 256) (.string l) = false := Db_not l 256 (fun x hx e => Classical.byContradiction fun hn => by
  have := inv_nm x hx hn
  rw [e, h] at this
  cases this)
theorem has_yes {l : List UInt8} {x : Nat} (h : inv l = some x) : Maps.has (Db 256) (.string l) = true ∧ ∀ z, (Db 256).atKey (.string l) z = .lit (.int .u8 (x : Int)) := by
  obtain ⟨h1, h2, h3⟩ := inv_some h
  rw [← h1]
  exact Db_at x h2 (by rw [h1]; exact h3) 256 (Nat.le_refl _) h2
set_option maxHeartbeats 1000000 in
set_option maxRecDepth 100000 in
theorem rd_none (l : List UInt8) (hn : Hid (l.length ≤ 2097154)) (hi : inv (cutB l).1 = none) (b : Nat) (w : World) (HM : Hid (Om b w)) : Calls Tryd.prog 26 #[.string (sb l), .map (some b)] w (RL (rdl l) w) := by
  have KC : Hid (∀ W : World, Calls Tryd.prog 31 #[.string (sb l), .string ⟨#[32]⟩] W fun e w' => e = .returned (.tuple #[.string (sb (cutB l).1), .string (sb (cutB l).2.1), .bool (cutB l).2.2]) ∧ Below W.heap.size W w') := fun W => cut_any l hn W
  have hle := cutB_le l
  have hkey : keyOf Tryd.prog 9 (.string (sb (cutB l).1)) = some (.string (cutB l).1) := Go.WideMaps.keyOf_string_mk Tryd.underlying9 (by rw [sb_size]; have := hn.out; unfold maxLen; omega)
  have hh := has_no hi
  have KN : Hid (∀ W : World, Calls Tryd.prog 32 #[.string (sb l)] W (RL (nml l) W)) := fun W => nameless_any l hn W
  rw [rdl_eq, hi]
  dsimp only
  generalize nml l = R at *
  generalize (cutB l).1 = n1 at *
  generalize sb n1 = N1 at *
  generalize sb (cutB l).2.1 = N2 at *
  generalize (cutB l).2.2 = t at *
  generalize sb l = N at *
  clear hi hle hn
  go_enter Tryd.func26, Tryd.ntmps26
  go_wp2_with fail
  have b0 : Below w.heap.size w (w.alloc (.cells #[.int .u8 0, .slice none 0 0] 43)) := (Below.refl _ _).alloc (Nat.le_refl _) _
  have x0 := Bx_new w
  obtain ⟨g, hg⟩ : ∃ g, g = w.heap.size := ⟨_, rfl⟩
  rw [← hg] at x0
  have o0 := Om_below HM.out b0
  generalize w.alloc (.cells #[.int .u8 0, .slice none 0 0] 43) = W0 at *
  rw [← hg]
  have HG : Hid (g = w.heap.size) := hg
  clear hg
  refine (KC.out W0).mono ?_
  rintro e w1 ⟨rfl, b1⟩
  have X1 : Hid _ := Bx_below x0 b1
  have B1 : Hid (Below w.heap.size w w1) := b0.trans (b1.mono b0.size)
  have o1 : w1.ownsMap Tryd.prog 9 (plainElem (H := Unit) Tryd.prog 5) b 256 (Db 256) := Om_below o0 b1
  clear x0 o0 b0 b1 KC
  go_wp2_with (at_lookup; refine wpList_lookup_own_ok_int _ rfl _ _ 47 rfl 9 5 .u8 lawS Tryd.underlying47 Tryd.underlying5 (zeroU8 _) b 256 _ rfl o1 _ _ rfl hkey ?_; intro c hat hwc)
  clear hat hwc o1
  refine (KN.out w1).mono ?_
  rintro e w2 ⟨y, ao, n, cap, rfl, hr, b2⟩
  have X2 : Hid _ := Bx_below X1.out b2
  have B2 : Hid (Below w.heap.size w w2) := B1.out.trans (b2.mono B1.out.size)
  have HL : Hid (g < w1.heap.size ∧ w.heap.size ≤ w1.heap.size) := ⟨X1.out.hi, B1.out.size⟩
  have HR : Hid (∀ x b, R = some (x, b) → y = (x : Int) ∧ n = b.length ∧ Sn w1.heap.size b ao cap w2) := hr
  clear b2 X1 B1 hr KN
  obtain ⟨v0, c0⟩ := X2.out.c0
  obtain ⟨v1, c1⟩ := X2.out.c1
  have f0 := X2.out.f0
  have f1 := X2.out.f1
  go_wp2_with fail
  try simp only [Exit.inBlock, Exit.then]
  refine bodyPost_ret (resO _ _ _ g 4 5 _ _ _ rfl rfl rfl (get0 c0) (get1 c1)) rfl ?_
  exact ⟨_, _, _, _, rfl, fun x b h => by
    obtain ⟨q1, q2, q3⟩ := HR.out x b h
    exact ⟨q1, q2, Sn_mono (Sn_set (Sn_set q3 HL.out.1) HL.out.1) HL.out.2⟩, set2_below B2.out (Nat.le_of_eq HG.out.symm)⟩
set_option maxHeartbeats 1000000 in
set_option maxRecDepth 100000 in
theorem rd_push (l : List UInt8) (hn : Hid (l.length ≤ 2097154)) (x : Nat) (hi : inv (cutB l).1 = some x) (ht : (cutB l).2.2 = true) (b : Nat) (w : World) (HM : Hid (Om b w)) : Calls Tryd.prog 26 #[.string (sb l), .map (some b)] w (RL (rdl l) w) := by
  have KC : Hid (∀ W : World, Calls Tryd.prog 31 #[.string (sb l), .string ⟨#[32]⟩] W fun e w' => e = .returned (.tuple #[.string (sb (cutB l).1), .string (sb (cutB l).2.1), .bool (cutB l).2.2]) ∧ Below W.heap.size W w') := fun W => cut_any l hn W
  have hle := cutB_le l
  have hkey : keyOf Tryd.prog 9 (.string (sb (cutB l).1)) = some (.string (cutB l).1) := Go.WideMaps.keyOf_string_mk Tryd.underlying9 (by rw [sb_size]; have := hn.out; unfold maxLen; omega)
  obtain ⟨hh, ha⟩ := has_yes hi
  have hx := (inv_some hi).2.1
  have KN : Hid (∀ W : World, Calls Tryd.prog 33 #[.int .u8 (x : Int), .string (sb (cutB l).2.1)] W (RL (psl x (cutB l).2.1) W)) := fun W => push_any x hx _ (by show _ ≤ _; have := hn.out; omega) W
  rw [rdl_eq, hi]
  dsimp only
  rw [ht] at KC ⊢
  rw [if_pos rfl]
  generalize psl x (cutB l).2.1 = R at *
  generalize (cutB l).1 = n1 at *
  generalize sb n1 = N1 at *
  generalize sb (cutB l).2.1 = N2 at *
  generalize sb l = N at *
  clear hi hle hn hx
  go_enter Tryd.func26, Tryd.ntmps26
  go_wp2_with fail
  have b0 : Below w.heap.size w (w.alloc (.cells #[.int .u8 0, .slice none 0 0] 43)) := (Below.refl _ _).alloc (Nat.le_refl _) _
  have x0 := Bx_new w
  obtain ⟨g, hg⟩ : ∃ g, g = w.heap.size := ⟨_, rfl⟩
  rw [← hg] at x0
  have o0 := Om_below HM.out b0
  generalize w.alloc (.cells #[.int .u8 0, .slice none 0 0] 43) = W0 at *
  rw [← hg]
  have HG : Hid (g = w.heap.size) := hg
  clear hg
  refine (KC.out W0).mono ?_
  rintro e w1 ⟨rfl, b1⟩
  have X1 : Hid _ := Bx_below x0 b1
  have B1 : Hid (Below w.heap.size w w1) := b0.trans (b1.mono b0.size)
  have o1 : w1.ownsMap Tryd.prog 9 (plainElem (H := Unit) Tryd.prog 5) b 256 (Db 256) := Om_below o0 b1
  clear x0 o0 b0 b1 KC
  go_wp2_with (at_lookup; refine wpList_lookup_own_ok_int _ rfl _ _ 47 rfl 9 5 .u8 lawS Tryd.underlying47 Tryd.underlying5 (zeroU8 _) b 256 _ rfl o1 _ _ rfl hkey ?_; intro c hat hwc)
  obtain rfl : c = (x : Int) := by
    rw [ha] at hat
    injection hat with hat
    injection hat with _ hat
    exact hat.symm
  clear hat hwc o1
  refine (KN.out w1).mono ?_
  rintro e w2 ⟨y, ao, n, cap, rfl, hr, b2⟩
  have X2 : Hid _ := Bx_below X1.out b2
  have B2 : Hid (Below w.heap.size w w2) := B1.out.trans (b2.mono B1.out.size)
  have HL : Hid (g < w1.heap.size ∧ w.heap.size ≤ w1.heap.size) := ⟨X1.out.hi, B1.out.size⟩
  have HR : Hid (∀ x b, R = some (x, b) → y = (x : Int) ∧ n = b.length ∧ Sn w1.heap.size b ao cap w2) := hr
  clear b2 X1 B1 hr KN ha
  obtain ⟨v0, c0⟩ := X2.out.c0
  obtain ⟨v1, c1⟩ := X2.out.c1
  have f0 := X2.out.f0
  have f1 := X2.out.f1
  go_wp2_with fail
  try simp only [Exit.inBlock, Exit.then]
  refine bodyPost_ret (resO _ _ _ g 4 5 _ _ _ rfl rfl rfl (get0 c0) (get1 c1)) rfl ?_
  exact ⟨_, _, _, _, rfl, fun x b h => by
    obtain ⟨q1, q2, q3⟩ := HR.out x b h
    exact ⟨q1, q2, Sn_mono (Sn_set (Sn_set q3 HL.out.1) HL.out.1) HL.out.2⟩, set2_below B2.out (Nat.le_of_eq HG.out.symm)⟩
set_option maxHeartbeats 1000000 in
set_option maxRecDepth 100000 in
theorem bare_0 (l : List UInt8) (hn : Hid (l.length ≤ 2097154)) (x : Nat) (hi : inv (cutB l).1 = some x) (ht : (cutB l).2.2 = false) (hp : psh (x : Int) = 0) (b : Nat) (w : World) (HM : Hid (Om b w)) : Calls Tryd.prog 26 #[.string (sb l), .map (some b)] w (RL (rdl l) w) := by
  have KC : Hid (∀ W : World, Calls Tryd.prog 31 #[.string (sb l), .string ⟨#[32]⟩] W fun e w' => e = .returned (.tuple #[.string (sb (cutB l).1), .string (sb (cutB l).2.1), .bool (cutB l).2.2]) ∧ Below W.heap.size W w') := fun W => cut_any l hn W
  have hle := cutB_le l
  have hkey : keyOf Tryd.prog 9 (.string (sb (cutB l).1)) = some (.string (cutB l).1) := Go.WideMaps.keyOf_string_mk Tryd.underlying9 (by rw [sb_size]; have := hn.out; unfold maxLen; omega)
  obtain ⟨hh, ha⟩ := has_yes hi
  have hx := (inv_some hi).2.1
  have KU : Hid (∀ W : World, Calls Tryd.prog 28 #[.int .u8 (x : Int)] W fun e w' => e = .returned (.int .i64 (psh (x : Int) : Int)) ∧ Below W.heap.size W w') := fun W => pushed_any _ (by omega) (by omega) W
  rw [rdl_eq, hi]
  dsimp only
  rw [ht] at KC ⊢
  rw [if_neg (by decide)]
  rw [if_pos hp]
  rw [hp] at KU
  generalize (cutB l).1 = n1 at *
  generalize sb n1 = N1 at *
  generalize sb (cutB l).2.1 = N2 at *
  generalize sb l = N at *
  clear hi hle hn hx
  go_enter Tryd.func26, Tryd.ntmps26
  go_wp2_with fail
  have b0 : Below w.heap.size w (w.alloc (.cells #[.int .u8 0, .slice none 0 0] 43)) := (Below.refl _ _).alloc (Nat.le_refl _) _
  have x0 := Bx_new w
  obtain ⟨g, hg⟩ : ∃ g, g = w.heap.size := ⟨_, rfl⟩
  rw [← hg] at x0
  have o0 := Om_below HM.out b0
  generalize w.alloc (.cells #[.int .u8 0, .slice none 0 0] 43) = W0 at *
  rw [← hg]
  have HG : Hid (g = w.heap.size) := hg
  clear hg
  refine (KC.out W0).mono ?_
  rintro e w1 ⟨rfl, b1⟩
  have X1 : Hid _ := Bx_below x0 b1
  have B1 : Hid (Below w.heap.size w w1) := b0.trans (b1.mono b0.size)
  have o1 : w1.ownsMap Tryd.prog 9 (plainElem (H := Unit) Tryd.prog 5) b 256 (Db 256) := Om_below o0 b1
  clear x0 o0 b0 b1 KC
  go_wp2_with (at_lookup; refine wpList_lookup_own_ok_int _ rfl _ _ 47 rfl 9 5 .u8 lawS Tryd.underlying47 Tryd.underlying5 (zeroU8 _) b 256 _ rfl o1 _ _ rfl hkey ?_; intro c hat hwc)
  obtain rfl : c = (x : Int) := by
    rw [ha] at hat
    injection hat with hat
    injection hat with _ hat
    exact hat.symm
  clear hat hwc o1
  refine (KU.out w1).mono ?_
  rintro e w2 ⟨rfl, b2⟩
  have X2 : Hid _ := Bx_below X1.out b2
  have B2 : Hid (Below w.heap.size w w2) := B1.out.trans (b2.mono B1.out.size)
  clear b2 X1 B1 ha
  obtain ⟨v0, c0⟩ := X2.out.c0
  obtain ⟨v1, c1⟩ := X2.out.c1
  have f0 := X2.out.f0
  have f1 := X2.out.f1
  go_wp2_with fail
  try simp only [Exit.inBlock, Exit.then]
  refine bodyPost_ret (resO _ _ _ g 4 5 _ _ _ rfl rfl rfl (get0 c0) (get1 c1)) rfl ?_
  exact ⟨(x : Int), none, 0, 0, rfl, fun x' b' h => by
    injection h with h
    injection h with q1 q2
    subst q1 q2
    exact ⟨rfl, rfl, Sn_nil _ _⟩, set2_below B2.out (Nat.le_of_eq HG.out.symm)⟩
set_option maxHeartbeats 1000000 in
set_option maxRecDepth 100000 in
theorem bare_p (l : List UInt8) (hn : Hid (l.length ≤ 2097154)) (x : Nat) (hi : inv (cutB l).1 = some x) (ht : (cutB l).2.2 = false) (hp : ¬ psh (x : Int) = 0) (b : Nat) (w : World) (HM : Hid (Om b w)) : Calls Tryd.prog 26 #[.string (sb l), .map (some b)] w (RL (rdl l) w) := by
  have KC : Hid (∀ W : World, Calls Tryd.prog 31 #[.string (sb l), .string ⟨#[32]⟩] W fun e w' => e = .returned (.tuple #[.string (sb (cutB l).1), .string (sb (cutB l).2.1), .bool (cutB l).2.2]) ∧ Below W.heap.size W w') := fun W => cut_any l hn W
  have hle := cutB_le l
  have hkey : keyOf Tryd.prog 9 (.string (sb (cutB l).1)) = some (.string (cutB l).1) := Go.WideMaps.keyOf_string_mk Tryd.underlying9 (by rw [sb_size]; have := hn.out; unfold maxLen; omega)
  obtain ⟨hh, ha⟩ := has_yes hi
  have hx := (inv_some hi).2.1
  have KU : Hid (∀ W : World, Calls Tryd.prog 28 #[.int .u8 (x : Int)] W fun e w' => e = .returned (.int .i64 (psh (x : Int) : Int)) ∧ Below W.heap.size W w') := fun W => pushed_any _ (by omega) (by omega) W
  rw [rdl_eq, hi]
  dsimp only
  rw [ht] at KC ⊢
  rw [if_neg (by decide)]
  rw [if_neg hp]
  obtain ⟨P, hP⟩ : ∃ P, P = psh (x : Int) := ⟨_, rfl⟩
  rw [← hP] at KU hp
  have q0 : ((P : Int) == 0) = false := by rw [beq_eq_false_iff_ne]; omega
  have q1 : ¬ (P : Int) = 0 := by omega
  clear hP
  generalize (cutB l).1 = n1 at *
  generalize sb n1 = N1 at *
  generalize sb (cutB l).2.1 = N2 at *
  generalize sb l = N at *
  clear hi hle hn hx
  go_enter Tryd.func26, Tryd.ntmps26
  go_wp2_with fail
  have b0 : Below w.heap.size w (w.alloc (.cells #[.int .u8 0, .slice none 0 0] 43)) := (Below.refl _ _).alloc (Nat.le_refl _) _
  have x0 := Bx_new w
  obtain ⟨g, hg⟩ : ∃ g, g = w.heap.size := ⟨_, rfl⟩
  rw [← hg] at x0
  have o0 := Om_below HM.out b0
  generalize w.alloc (.cells #[.int .u8 0, .slice none 0 0] 43) = W0 at *
  rw [← hg]
  have HG : Hid (g = w.heap.size) := hg
  clear hg
  refine (KC.out W0).mono ?_
  rintro e w1 ⟨rfl, b1⟩
  have X1 : Hid _ := Bx_below x0 b1
  have B1 : Hid (Below w.heap.size w w1) := b0.trans (b1.mono b0.size)
  have o1 : w1.ownsMap Tryd.prog 9 (plainElem (H := Unit) Tryd.prog 5) b 256 (Db 256) := Om_below o0 b1
  clear x0 o0 b0 b1 KC
  go_wp2_with (at_lookup; refine wpList_lookup_own_ok_int _ rfl _ _ 47 rfl 9 5 .u8 lawS Tryd.underlying47 Tryd.underlying5 (zeroU8 _) b 256 _ rfl o1 _ _ rfl hkey ?_; intro c hat hwc)
  obtain rfl : c = (x : Int) := by
    rw [ha] at hat
    injection hat with hat
    injection hat with _ hat
    exact hat.symm
  clear hat hwc o1
  refine (KU.out w1).mono ?_
  rintro e w2 ⟨rfl, b2⟩
  have X2 : Hid _ := Bx_below X1.out b2
  have B2 : Hid (Below w.heap.size w w2) := B1.out.trans (b2.mono B1.out.size)
  clear b2 X1 B1 ha
  obtain ⟨v0, c0⟩ := X2.out.c0
  obtain ⟨v1, c1⟩ := X2.out.c1
  have f0 := X2.out.f0
  have f1 := X2.out.f1
  go_wp2_with fail
  try simp only [Exit.inBlock, Exit.then]
  refine bodyPost_ret (resO _ _ _ g 4 5 _ _ _ rfl rfl rfl (get0 c0) (get1 c1)) rfl ?_
  exact ⟨(x : Int), none, 0, 0, by simp, fun x' b' h => (by cases h), set2_below B2.out (Nat.le_of_eq HG.out.symm)⟩
theorem line_read (l : List UInt8) (hn : Hid (l.length ≤ 2097154)) (b : Nat) (w : World) (HM : Hid (Om b w)) : Calls Tryd.prog 26 #[.string (sb l), .map (some b)] w (RL (rdl l) w) := by
  cases hi : inv (cutB l).1 with
  | none => exact rd_none l hn hi b w HM
  | some x =>
    cases ht : (cutB l).2.2 with
    | true => exact rd_push l hn x hi ht b w HM
    | false =>
      by_cases hp : psh (x : Int) = 0
      · exact bare_0 l hn x hi ht hp b w HM
      · exact bare_p l hn x hi ht hp b w HM
end Cd
end Go.Proofs.YtmlddefoehgofabDoor
/- The same, where those of class 1 may look at others of class 1 that they are bound to. A region that draws its order: some values stand fast whatever the order (class 0), some hang on when they come (class 1: new blocks), and the rest come behind all these, one behind the other (class 2). -/
namespace Go.Proofs.YtmlddefoehgofabDoor
namespace RH
open RI RS RN Go.RowKit
variable {P : Program} {ops : Array Oper} {Q : Exit → Act → World → Prop}
def cls (ks : List Nat) (j : Nat) : Nat := ks.getD j 2
def updU (U : Nat → Value) (i : Nat) (v : Value) : Nat → Value := fun j => if j = i then v else U j
/-- A step of class 0. -/
def DStep (P : Program) (ops : Array Oper) (I : (Nat → Bool) → (Nat → Value) → World → Prop) (i : Nat) (o : Oper) (v : Value) (U : Nat → Value) (a : Act) : Prop :=
  (Region.wanted o (yielded ops a.tmps) = true ∧ ∀ (K : Value → World → Prop) d w, I d U w → may ops d i → (∀ w', I (don d i) U w' → K v w') → upv P K ((execOp a.eval o).run P w)) ∨
  (Region.wanted o (yielded ops a.tmps) = false ∧ v = undef ∧ ∀ d w, I d U w → may ops d i → I (don d i) U w)
/-- A step of class 1. -/
def NStep (P : Program) (ops : Array Oper) (I : (Nat → Bool) → (Nat → Value) → World → Prop) (j : Nat) (o : Oper) (U : Nat → Value) (a : Act) : Prop :=
  ∀ (K : Value → World → Prop) d w, I d U w → may ops d j → (∀ v w', I (don d j) (updU U j v) w' → K v w') → upv P K ((execOp a.eval o).run P w)
/-- The walk in the text's order: class 0 by its value, class 1 by its fact. -/
def Walk (P : Program) (ops : Array Oper) (I : (Nat → Bool) → (Nat → Value) → World → Prop) (E : ((Nat → Value) → Act) → Prop) : Nat → List Oper → List Nat → ((Nat → Value) → Act) → Prop
  | j, o :: r, k :: ks, f =>
    if k = 0 then ∃ v, (∀ U, DStep P ops I j o v U (f U)) ∧ Walk P ops I E (j + 1) r ks (fun U => (f U).put o.dst v)
    else if k = 1 then o.guard = none ∧ (∀ U, NStep P ops I j o U (f U)) ∧ Walk P ops I E (j + 1) r ks (fun U => (f U).put o.dst (U j))
    else Walk P ops I E (j + 1) r ks f
  | _, _, _, f => E f
def tl : List Oper → List Nat → List Oper
  | o :: r, k :: ks => if k = 2 then o :: tl r ks else tl r ks
  | _, _ => []
/-- What each operation is bound to, through others too, as bits. -/
def mask1 (ms : List Nat) (o : Oper) : Nat := o.after.toList.foldl (fun m e => if Region.binds .any e then m ||| (1 <<< e.on) ||| ms.getD e.on 0 else m) 0
def masks (ops : Array Oper) : Nat → List Nat
  | 0 => []
  | k + 1 => masks ops k ++ [((ops[k]?).map (mask1 (masks ops k))).getD 0]
def pairC (ops : Array Oper) (ks : List Nat) (i j : Nat) : Bool :=
  match ops[i]?, ops[j]? with
  | some x, some y =>
    match y.dst with
    | none => true
    | some t =>
      if cls ks i = 2 then true
      else if cls ks j = 2 then true
      else (x.dst != some t || i == j) && (if cls ks j = 1 ∧ cls ks i = 0 then !(x.looksAt ops).contains t else (!(x.looksAt ops).contains t || (decide (j < i) && bindsOn x j) || (decide (i < j) && bindsOn y i)))
  | _, _ => true
def okC (ops : Array Oper) (ks : List Nat) : Bool :=
  RI.early ops && decide (ks.length = ops.size) && (List.range ops.size).all fun i =>
    (((ops[i]?).map fun o => !isSel o.op).getD true && decide (cls ks i ≤ 2)) && (List.range ops.size).all (fun j => pairC ops ks i j) &&
    (if cls ks i = 2 then (List.range ops.size).all fun j => (decide (cls ks j = 2) && decide (i ≤ j)) || ((masks ops ops.size).getD i 0).testBit j else true)
theorem masks_len (ops : Array Oper) : ∀ k, (masks ops k).length = k
  | 0 => rfl
  | k + 1 => by rw [masks, List.length_append, masks_len ops k]; rfl
theorem masks_get (ops : Array Oper) : ∀ n k, k < n → (masks ops n).getD k 0 = ((ops[k]?).map (mask1 (masks ops k))).getD 0
  | 0, k, h => absurd h (by omega)
  | n + 1, k, h => by
    rw [masks]
    by_cases e : k = n
    · subst e
      rw [List.getD_eq_getElem?_getD, List.getElem?_append_right (by rw [masks_len]; omega), masks_len]
      simp
    · rw [List.getD_eq_getElem?_getD, List.getElem?_append_left (by rw [masks_len]; omega), ← List.getD_eq_getElem?_getD]
      exact masks_get ops n k (by omega)
def Closed (ops : Array Oper) (d : Nat → Bool) : Prop := ∀ (j : Nat) (o : Oper), ops[j]? = some o → d j = true → ∀ e, e ∈ o.after → Region.binds .any e = true → d e.on = true
theorem mask1_bit (ms : List Nat) (o : Oper) (i : Nat) (h : (mask1 ms o).testBit i = true) : ∃ e, e ∈ o.after ∧ Region.binds .any e = true ∧ (e.on = i ∨ (ms.getD e.on 0).testBit i = true) := by
  unfold mask1 at h
  have key : ∀ (l : List Edge) (m : Nat), (l.foldl (fun m e => if Region.binds .any e then m ||| (1 <<< e.on) ||| ms.getD e.on 0 else m) m).testBit i = true → m.testBit i = true ∨ ∃ e, e ∈ l ∧ Region.binds .any e = true ∧ (e.on = i ∨ (ms.getD e.on 0).testBit i = true) := by
    intro l
    induction l with
    | nil => intro m h; exact .inl h
    | cons e r ih =>
      intro m h
      rw [List.foldl_cons] at h
      rcases ih _ h with h1 | ⟨e', h1, h2⟩
      · by_cases hb : Region.binds .any e = true
        · rw [if_pos hb, Nat.testBit_or, Nat.testBit_or, Bool.or_eq_true, Bool.or_eq_true] at h1
          rcases h1 with (h1 | h1) | h1
          · exact .inl h1
          · refine .inr ⟨e, List.mem_cons_self .., hb, .inl ?_⟩
            rw [Nat.one_shiftLeft, Nat.testBit_two_pow] at h1
            simpa using h1
          · exact .inr ⟨e, List.mem_cons_self .., hb, .inr h1⟩
        · rw [if_neg hb] at h1; exact .inl h1
      · exact .inr ⟨e', List.mem_cons_of_mem _ h1, h2⟩
  rcases key _ 0 h with h1 | ⟨e, h1, h2⟩
  · rw [Nat.zero_testBit] at h1; cases h1
  · exact ⟨e, by simpa using h1, h2⟩
theorem mask_done (he : RI.early ops = true) (d : Nat → Bool) (hcl : Closed ops d) : ∀ (n j : Nat), j < n → n ≤ ops.size → (∀ o, ops[j]? = some o → ∀ e, e ∈ o.after → Region.binds .any e = true → d e.on = true) → ∀ i, (((ops[j]?).map (mask1 (masks ops j))).getD 0).testBit i = true → d i = true
  | 0, j, h, _, _, _, _ => absurd h (by omega)
  | n + 1, j, hj, hn, hd, i, h => by
    have hjs : j < ops.size := by omega
    rw [Array.getElem?_eq_getElem hjs] at h
    simp only [Option.map_some, Option.getD_some] at h
    obtain ⟨e, h1, h2, h3⟩ := mask1_bit _ _ _ h
    have h4 := hd _ (Array.getElem?_eq_getElem hjs) e h1 h2
    rcases h3 with rfl | h3
    · exact h4
    · have hlt : e.on < j := by
        have h5 := List.all_eq_true.1 he j (List.mem_range.2 hjs)
        rw [Array.getElem?_eq_getElem hjs] at h5
        simp only [Option.map_some, Option.getD_some, Array.all_eq_true_iff_forall_mem] at h5
        have := h5 e h1
        rw [h2] at this
        simpa using this
      rw [masks_get ops j e.on hlt] at h3
      exact mask_done he d hcl n e.on (by omega) (by omega) (fun o ho => hcl e.on o ho h4) i h3
theorem fr_get2 (V : Nat → Value) (a : Act) (d c : Nat → Bool) (i t : Nat) : ∀ k, (∀ j, j < k → (ops[j]?).bind (·.dst) = some t → (j < i ∧ d j = true ∧ c j = true) ∨ (d j = false ∧ (c j = false ∨ i ≤ j))) → (fr ops V d a k).tmps[t]? = (fr ops V c a (min k i)).tmps[t]?
  | 0, _ => by simp [fr]
  | k + 1, h => by
    have ih := fr_get2 V a d c i t k (fun j hj => h j (by omega))
    have hk := h k (by omega)
    by_cases hi : k < i
    · rw [show min (k + 1) i = k + 1 by omega, fr, fr]
      rw [show min k i = k by omega] at ih
      by_cases e : (ops[k]?).bind (·.dst) = some t
      · rcases hk e with ⟨_, h2, h3⟩ | ⟨h1, h2 | h2⟩
        · rw [h2, h3]; simp only [if_true]; rw [put_get, put_get]; simp only [get_size ih, ih]
        · rw [h1, h2]; exact ih
        · omega
      · have q : ∀ (x : Act) (b : Bool), (if b then x.put ((ops[k]?).bind (·.dst)) (V k) else x).tmps[t]? = x.tmps[t]? := by
          intro x b; cases b
          · rfl
          · simp only [if_true]; rw [put_get, if_neg e]
        rw [q, q, ih]
    · rw [show min (k + 1) i = i by omega, fr]
      rw [show min k i = i by omega] at ih
      by_cases e : (ops[k]?).bind (·.dst) = some t
      · rcases hk e with ⟨h1, _⟩ | ⟨h2, _⟩
        · omega
        · rw [h2]; exact ih
      · cases d k
        · exact ih
        · simp only [if_true]; rw [put_get, if_neg e]; exact ih
theorem fr_put2 (V : Nat → Value) (a : Act) (d : Nat → Bool) (i : Nat) (hd : d i = false) : ∀ k, (∀ j, j < k → d j = true → ∀ t, (ops[i]?).bind (·.dst) = some t → (ops[j]?).bind (·.dst) ≠ some t) →
    fr ops V (don d i) a k = if i < k then (fr ops V d a k).put ((ops[i]?).bind (·.dst)) (V i) else fr ops V d a k
  | 0, _ => by simp [fr]
  | k + 1, h => by
    have ih := fr_put2 V a d i hd k (fun j hj => h j (by omega))
    rw [fr, fr]
    by_cases e : k = i
    · subst e
      rw [don_same, hd, ih, if_neg (show ¬ k < k by omega), if_pos (show k < k + 1 by omega)]
      simp
    · rw [don_other _ _ _ e, ih]
      by_cases h1 : i < k
      · rw [if_pos h1, if_pos (show i < k + 1 by omega)]
        cases hk : d k with
        | false => simp
        | true =>
          simp only [if_true]
          exact Act.put_comm _ _ _ (fun t ht => h k (by omega) hk t ht)
      · rw [if_neg h1, if_neg (show ¬ i < k + 1 by omega)]
def isDN (ks : List Nat) (j : Nat) : Bool := cls ks j == 0 || cls ks j == 1
/-- The value of each that is not of class 2. -/
def VU (ks : List Nat) (V U : Nat → Value) (j : Nat) : Value := if cls ks j = 1 then U j else V j
theorem walk_vals {I : (Nat → Bool) → (Nat → Value) → World → Prop} {E : ((Nat → Value) → Act) → Prop} (ks : List Nat) (a : Act) : ∀ (l : List Oper) (k : List Nat) (m : Nat) (V : Nat → Value), l.length = k.length → (∀ j o, l[j]? = some o → ops[m + j]? = some o) → (∀ j c, k[j]? = some c → cls ks (m + j) = c) → (∀ j, j < k.length → cls ks (m + j) ≤ 2) → Walk P ops I E m l k (fun U => fr ops (VU ks V U) (isDN ks) a m) →
    ∃ V', (∀ j, j < m → V' j = V j) ∧ (∀ j o U, l[j]? = some o → cls ks (m + j) = 0 → DStep P ops I (m + j) o (V' (m + j)) U (fr ops (VU ks V' U) (isDN ks) a (m + j))) ∧ (∀ j o U, l[j]? = some o → cls ks (m + j) = 1 → o.guard = none ∧ NStep P ops I (m + j) o U (fr ops (VU ks V' U) (isDN ks) a (m + j))) ∧ E (fun U => fr ops (VU ks V' U) (isDN ks) a (m + l.length))
  | [], k, m, V, _, _, _, _, h => ⟨V, fun _ _ => rfl, fun j o _ hj => by simp at hj, fun j o _ hj => by simp at hj, by cases k <;> simpa [Walk] using h⟩
  | o :: r, [], m, V, hl, _, _, _, h => absurd hl (by simp)
  | o :: r, c :: k, m, V, hlen, hl, hc, h3, h => by
    have hkm : ops[m]? = some o := by simpa using hl 0 o rfl
    have hcm : cls ks m = c := by simpa using hc 0 c rfl
    have frV : ∀ (V1 V2 U : Nat → Value) (n : Nat), (∀ j, j < n → V1 j = V2 j) → fr ops (VU ks V1 U) (isDN ks) a n = fr ops (VU ks V2 U) (isDN ks) a n := fun V1 V2 U n hv => fr_V a (isDN ks) _ _ n (fun j hj _ => by unfold VU; rw [hv j hj])
    have hl' : ∀ j o', r[j]? = some o' → ops[m + 1 + j]? = some o' := fun j o' hj => by have := hl (j + 1) o' (by simpa using hj); rwa [show m + (j + 1) = m + 1 + j by omega] at this
    have hc' : ∀ j c', k[j]? = some c' → cls ks (m + 1 + j) = c' := fun j c' hj => by have := hc (j + 1) c' (by simpa using hj); rwa [show m + (j + 1) = m + 1 + j by omega] at this
    have h3' : ∀ j, j < k.length → cls ks (m + 1 + j) ≤ 2 := fun j hj => by have := h3 (j + 1) (by simpa using hj); rwa [show m + (j + 1) = m + 1 + j by omega] at this
    unfold Walk at h
    by_cases h0 : c = 0
    · rw [if_pos h0] at h
      obtain ⟨v, h1, h2⟩ := h
      let W : Nat → Value := fun j => if j = m then v else V j
      have hW : (fun U => fr ops (VU ks W U) (isDN ks) a (m + 1)) = fun U => (fr ops (VU ks V U) (isDN ks) a m).put o.dst v := by
        funext U
        rw [fr, frV W V U m (fun j hj => by simp only [W]; rw [if_neg (by omega)])]
        simp [isDN, hcm, h0, hkm, W, VU]
      rw [← hW] at h2
      obtain ⟨V', e1, e2, e3, e4⟩ := walk_vals ks a r k (m + 1) W (by simpa using hlen) hl' hc' h3' h2
      have eV : ∀ U, fr ops (VU ks V' U) (isDN ks) a m = fr ops (VU ks V U) (isDN ks) a m := fun U => frV V' V U m (fun j hj => by rw [e1 j (by omega)]; simp only [W]; rw [if_neg (by omega)])
      refine ⟨V', fun j hj => ?_, fun j o' U hj hcj => ?_, fun j o' U hj hcj => ?_, ?_⟩
      · rw [e1 j (by omega)]; simp only [W]; rw [if_neg (by omega)]
      · cases j with
        | zero =>
          have : o' = o := by simpa using hj.symm
          subst this
          rw [Nat.add_zero, e1 m (by omega), eV]
          simpa [W] using h1 U
        | succ j => rw [show m + (j + 1) = m + 1 + j by omega] at hcj ⊢; exact e2 j o' U (by simpa using hj) hcj
      · cases j with
        | zero => rw [Nat.add_zero, hcm, h0] at hcj; exact absurd hcj (by decide)
        | succ j => rw [show m + (j + 1) = m + 1 + j by omega] at hcj ⊢; exact e3 j o' U (by simpa using hj) hcj
      · rw [show m + (o :: r).length = m + 1 + r.length by simp; omega]; exact e4
    · rw [if_neg h0] at h
      by_cases h1 : c = 1
      · rw [if_pos h1] at h
        obtain ⟨hg, hn, h2⟩ := h
        have hW : (fun U => fr ops (VU ks V U) (isDN ks) a (m + 1)) = fun U => (fr ops (VU ks V U) (isDN ks) a m).put o.dst (U m) := by
          funext U
          rw [fr]
          simp [isDN, hcm, h1, hkm, VU]
        rw [← hW] at h2
        obtain ⟨V', e1, e2, e3, e4⟩ := walk_vals ks a r k (m + 1) V (by simpa using hlen) hl' hc' h3' h2
        have eV : ∀ U, fr ops (VU ks V' U) (isDN ks) a m = fr ops (VU ks V U) (isDN ks) a m := fun U => frV V' V U m (fun j hj => e1 j (by omega))
        refine ⟨V', fun j hj => e1 j (by omega), fun j o' U hj hcj => ?_, fun j o' U hj hcj => ?_, ?_⟩
        · cases j with
          | zero => rw [Nat.add_zero, hcm] at hcj; exact absurd hcj h0
          | succ j => rw [show m + (j + 1) = m + 1 + j by omega] at hcj ⊢; exact e2 j o' U (by simpa using hj) hcj
        · cases j with
          | zero =>
            have : o' = o := by simpa using hj.symm
            subst this
            rw [Nat.add_zero, eV]
            exact ⟨hg, hn U⟩
          | succ j => rw [show m + (j + 1) = m + 1 + j by omega] at hcj ⊢; exact e3 j o' U (by simpa using hj) hcj
        · rw [show m + (o :: r).length = m + 1 + r.length by simp; omega]; exact e4
      · rw [if_neg h1] at h
        have hskip : (fun U => fr ops (VU ks V U) (isDN ks) a (m + 1)) = fun U => fr ops (VU ks V U) (isDN ks) a m := by
          funext U
          rw [fr]; simp [isDN, hcm, h0, h1]
        rw [← hskip] at h
        obtain ⟨V', e1, e2, e3, e4⟩ := walk_vals ks a r k (m + 1) V (by simpa using hlen) hl' hc' h3' h
        refine ⟨V', fun j hj => e1 j (by omega), fun j o' U hj hcj => ?_, fun j o' U hj hcj => ?_, ?_⟩
        · cases j with
          | zero => rw [Nat.add_zero, hcm] at hcj; exact absurd hcj h0
          | succ j => rw [show m + (j + 1) = m + 1 + j by omega] at hcj ⊢; exact e2 j o' U (by simpa using hj) hcj
        · cases j with
          | zero => rw [Nat.add_zero, hcm] at hcj; exact absurd hcj h1
          | succ j => rw [show m + (j + 1) = m + 1 + j by omega] at hcj ⊢; exact e3 j o' U (by simpa using hj) hcj
        · rw [show m + (o :: r).length = m + 1 + r.length by simp; omega]; exact e4
theorem tl_skip : ∀ (l : List Oper) (ks : List Nat) (m n : Nat), m ≤ n → (∀ j, m ≤ j → j < n → ks.getD j 2 ≠ 2) → n ≤ ks.length → l.length = ks.length → tl (l.drop m) (ks.drop m) = tl (l.drop n) (ks.drop n) := by
  intro l ks m n hmn h hn hl
  induction n with
  | zero => have : m = 0 := by omega
            subst this; rfl
  | succ n ih =>
    by_cases e : m = n + 1
    · subst e; rfl
    · rw [ih (by omega) (fun j h1 h2 => h j h1 (by omega)) (by omega)]
      have hk : n < ks.length := by omega
      have hl' : n < l.length := by omega
      rw [List.drop_eq_getElem_cons hl', List.drop_eq_getElem_cons hk, tl, if_neg]
      have := h n (by omega) (by omega)
      rwa [List.getD_eq_getElem?_getD, List.getElem?_eq_getElem hk] at this
theorem tl_here (l : List Oper) (ks : List Nat) (n : Nat) (hl : n < l.length) (hk : n < ks.length) (h : ks.getD n 2 = 2) : tl (l.drop n) (ks.drop n) = l[n] :: tl (l.drop (n + 1)) (ks.drop (n + 1)) := by
  rw [List.drop_eq_getElem_cons hl, List.drop_eq_getElem_cons hk, tl, if_pos]
  rwa [List.getD_eq_getElem?_getD, List.getElem?_eq_getElem hk] at h
theorem wp_region_genI {id : Nat} {a : Act} {w : World} (I : (Nat → Bool) → (Nat → Value) → World → Prop) (ks : List Nat)
    (hm : P.follows .mixedOrders = true) (hok : okC ops ks = true) (h0 : I (fun _ => false) (fun _ => undef) w.drew)
    (hs : Walk P ops I (fun f => ∀ d (U : Nat → Value) w', I d U w' → (∀ j, j < ops.size → d j = decide (cls ks j ≠ 2)) → wpList P ops Q (tl ops.toList ks) (f U) w') 0 ops.toList ks (fun _ => a)) : (Code.region id ops true).wp P Q a w := by
  have hok' := hok
  unfold okC at hok'
  rw [Bool.and_eq_true, Bool.and_eq_true] at hok'
  obtain ⟨⟨he, hlen0⟩, hp⟩ := hok'
  have hlen : ks.length = ops.size := by simpa using hlen0
  have hcget : ∀ j c, ks[j]? = some c → cls ks j = c := fun j c h => by unfold cls; rw [List.getD_eq_getElem?_getD, h]; rfl
  have hgetc : ∀ j c, j < ops.size → cls ks j = c → ks[j]? = some c := fun j c hj h => by
    unfold cls at h
    rw [List.getD_eq_getElem?_getD, List.getElem?_eq_getElem (by omega)] at h
    rw [List.getElem?_eq_getElem (by omega)]
    simpa using h
  have hrow : ∀ i, i < ops.size → ((ops[i]?).map fun o => !isSel o.op).getD true = true ∧ (∀ j, j < ops.size → pairC ops ks i j = true) ∧ (cls ks i = 2 → ∀ j, j < ops.size → (cls ks j = 2 ∧ i ≤ j) ∨ ((masks ops ops.size).getD i 0).testBit j = true) := by
    intro i hi
    have h1 := List.all_eq_true.1 hp i (List.mem_range.2 hi)
    rw [Bool.and_eq_true, Bool.and_eq_true, Bool.and_eq_true] at h1
    refine ⟨h1.1.1.1, fun j hj => List.all_eq_true.1 h1.1.2 j (List.mem_range.2 hj), fun hc j hj => ?_⟩
    have h2 := h1.2
    rw [if_pos hc] at h2
    have h3 := List.all_eq_true.1 h2 j (List.mem_range.2 hj)
    rw [Bool.or_eq_true, Bool.and_eq_true, decide_eq_true_eq, decide_eq_true_eq] at h3
    exact h3
  have hthree : ∀ i, i < ops.size → cls ks i ≤ 2 := by
    intro i hi
    have h1 := List.all_eq_true.1 hp i (List.mem_range.2 hi)
    rw [Bool.and_eq_true, Bool.and_eq_true, Bool.and_eq_true] at h1
    simpa using h1.1.1.2
  obtain ⟨V, _, hstD, hstN, hE⟩ := walk_vals (P := P) (ops := ops) ks a ops.toList ks 0 (fun _ => undef) (by simp [hlen]) (fun j o hj => by simpa using hj) (fun j c hj => by rw [Nat.zero_add]; exact hcget j c hj) (fun j hj => by rw [Nat.zero_add]; exact hthree j (by omega)) hs
  simp only [Nat.zero_add] at hstD hstN hE
  rw [show ops.toList.length = ops.size by simp] at hE
  have pair : ∀ (i j : Nat) (x y : Oper) (t : Nat), ops[i]? = some x → ops[j]? = some y → cls ks i ≠ 2 → cls ks j ≠ 2 → y.dst = some t → (x.dst = some t → i = j) ∧ (t ∈ x.looksAt ops → (j < i ∧ bindsOn x j = true) ∨ (i < j ∧ bindsOn y i = true)) := by
    intro i j x y t hx hy hci hcj ht
    have hi : i < ops.size := (Array.getElem?_eq_some_iff.1 hx).1
    have hj : j < ops.size := (Array.getElem?_eq_some_iff.1 hy).1
    have h2 := (hrow i hi).2.1 j hj
    unfold pairC at h2
    simp only [hx, hy, ht, if_neg hci, if_neg hcj] at h2
    rw [Bool.and_eq_true] at h2
    refine ⟨fun e => ?_, fun hm => ?_⟩
    · have := h2.1
      rw [e] at this
      simpa using this
    · have h3 := h2.2
      by_cases hc1 : cls ks j = 1 ∧ cls ks i = 0
      · rw [if_pos hc1] at h3
        simp at h3
        exact absurd hm h3
      · rw [if_neg hc1] at h3
        simp at h3
        rcases h3 with (h | h) | h
        · exact absurd hm h
        · exact .inl h
        · exact .inr h
  have nosel : ∀ (i : Nat) (x : Oper) cs b, ops[i]? = some x → x.op ≠ .select cs b := by
    intro i x cs b hx hc
    have hi : i < ops.size := (Array.getElem?_eq_some_iff.1 hx).1
    have h1 := (hrow i hi).1
    rw [hx] at h1
    simp [hc, isSel] at h1
  have deps : ∀ (d : Nat → Bool) (i : Nat) (o : Oper), may ops d i → ops[i]? = some o → ∀ e, e ∈ o.after → Region.binds .any e = true → d e.on = true := by
    intro d i o hmay ho e h1 h2
    have := hmay.2 o ho
    rw [Array.all_eq_true_iff_forall_mem] at this
    have := this e h1
    rw [h2] at this
    simpa using this
  have tailb : ∀ (d : Nat → Bool) (i : Nat), Closed ops d → cls ks i = 2 → i < ops.size → may ops d i → ∀ j, j < ops.size → (cls ks j ≠ 2 ∨ j < i) → d j = true := by
    intro d i hcl hc hi hmay j hj hor
    rcases (hrow i hi).2.2 hc j hj with ⟨h1, h2⟩ | h
    · rcases hor with h3 | h3
      · exact absurd h1 h3
      · omega
    · rw [masks_get ops ops.size i hi] at h
      exact mask_done he d hcl ops.size i hi (Nat.le_refl _) (fun o ho => deps d i o hmay ho) j h
  let J1 : (Nat → Bool) → Act → World → Prop := fun d x wx => ∃ U : Nat → Value, x = fr ops (VU ks V U) d a ops.size ∧ I d U wx ∧ Closed ops d ∧ (∀ j, cls ks j = 2 → d j = false) ∧ ∃ j, j < ops.size ∧ cls ks j ≠ 2 ∧ d j = false
  let J2 : (Nat → Bool) → Act → World → Prop := fun d x wx => ∃ m, m ≤ ops.size ∧ Closed ops d ∧ (∀ j, j < ops.size → d j = (decide (cls ks j ≠ 2) || decide (j < m))) ∧ wpList P ops Q (tl (ops.toList.drop m) (ks.drop m)) x wx
  have enter : ∀ d x wx (U : Nat → Value), x = fr ops (VU ks V U) d a ops.size → I d U wx → Closed ops d → (∀ j, cls ks j = 2 → d j = false) → (∀ j, j < ops.size → cls ks j ≠ 2 → d j = true) → J2 d x wx := by
    intro d x wx U hx hIw hcl hf htr
    have hdd : ∀ j, j < ops.size → d j = decide (cls ks j ≠ 2) := fun j hj => by
      by_cases hc : cls ks j = 2
      · rw [hf j hc, hc]; simp
      · rw [htr j hj hc]; simp [hc]
    refine ⟨0, Nat.zero_le _, hcl, fun j hj => ?_, ?_⟩
    · by_cases hc : cls ks j = 2
      · rw [hf j hc, hc]; simp
      · rw [htr j hj hc]; simp [hc]
    · have h1 := hE d U wx hIw hdd
      rw [List.drop_zero, List.drop_zero, hx, fr_congr (VU ks V U) a d (isDN ks) ops.size (fun j hj => ?_)]
      · exact h1
      · by_cases hc : cls ks j = 2
        · rw [hf j hc]; simp [isDN, hc]
        · rw [htr j hj hc]
          unfold isDN
          have h3c := hthree j hj
          by_cases h0c : cls ks j = 0
          · simp [h0c]
          · by_cases h1c : cls ks j = 1
            · simp [h1c]
            · omega
  refine wp_region_inv (fun d x wx => J1 d x wx ∨ J2 d x wx) hm he ?_ ?_ ?_
  · have hz : ∀ V', fr ops V' (fun _ => false) a ops.size = a := by
      intro V'
      have : ∀ k, fr ops V' (fun _ => false) a k = a := by
        intro k
        induction k with
        | zero => rfl
        | succ k ih => rw [fr, ih]; simp
      exact this _
    have hcl0 : Closed ops (fun _ => false) := fun _ _ _ h => by cases h
    by_cases hall : ∀ j, j < ops.size → cls ks j = 2
    · exact .inr (enter _ _ _ (fun _ => undef) (hz _).symm h0 hcl0 (fun _ _ => rfl) (fun j hj h => absurd (hall j hj) h))
    · rw [Classical.not_forall] at hall
      obtain ⟨j, hj⟩ := hall
      rw [Classical.not_imp] at hj
      exact .inl ⟨fun _ => undef, (hz _).symm, h0, hcl0, (fun _ _ => rfl), j, hj.1, hj.2, rfl⟩
  · rintro d x wx i (⟨U, rfl, hI, hcl, hfz, j0, hj0, hcj0, hdj0⟩ | ⟨m, hm', hcl, hd, hw⟩) hi hmay
    · have hci : cls ks i ≠ 2 := by
        intro h
        have := tailb d i hcl h hi hmay j0 hj0 (.inl hcj0)
        rw [hdj0] at this; cases this
      obtain ⟨o, ho⟩ : ∃ o, ops[i]? = some o := ⟨ops[i], Array.getElem?_eq_getElem hi⟩
      have hdeps := deps d i o hmay ho
      have hput : ∀ (V' : Nat → Value) v, v = V' i → (fr ops V' d a ops.size).put o.dst v = fr ops V' (don d i) a ops.size := by
        rintro V' v rfl
        rw [fr_put2 V' a d i hmay.1 ops.size (fun j hj hdj t ht => fun hjt => ?_), if_pos hi, ho]
        · rfl
        · obtain ⟨y, hy⟩ : ∃ y, ops[j]? = some y := ⟨ops[j], Array.getElem?_eq_getElem hj⟩
          rw [hy] at hjt
          rw [ho] at ht
          have hcj : cls ks j ≠ 2 := by intro h; rw [hfz j h] at hdj; cases hdj
          have := (pair i j o y t ho hy hci hcj hjt).1 ht
          subst this
          rw [hmay.1] at hdj; cases hdj
      have hclo : Closed ops (don d i) := by
        intro j o' hj hdj e e1 e2
        have : d e.on = true := by
          by_cases hji : j = i
          · subst hji
            rw [ho] at hj
            cases hj
            exact hdeps e e1 e2
          · rw [don_other _ _ _ hji] at hdj
            exact hcl j o' hj hdj e e1 e2
        unfold don; split
        · rfl
        · exact this
      have hnext : ∀ (U' : Nat → Value) x w', x = fr ops (VU ks V U') (don d i) a ops.size → I (don d i) U' w' → J1 (don d i) x w' ∨ J2 (don d i) x w' := by
        intro U' x w' hx hI'
        have hf' : ∀ j, cls ks j = 2 → don d i j = false := fun j hj => by
          have hji : j ≠ i := by intro e; subst e; exact hci hj
          rw [don_other _ _ _ hji]; exact hfz j hj
        by_cases hall : ∀ j, j < ops.size → cls ks j ≠ 2 → don d i j = true
        · exact .inr (enter _ _ _ U' hx hI' hclo hf' hall)
        · refine .inl ⟨U', hx, hI', hclo, hf', ?_⟩
          rw [Classical.not_forall] at hall
          obtain ⟨j, hj⟩ := hall
          rw [Classical.not_imp, Classical.not_imp] at hj
          exact ⟨j, hj.1, hj.2.1, by simpa using hj.2.2⟩
      have hsame : ∀ t, t ∈ o.looksAt ops → (fr ops (VU ks V U) d a ops.size).tmps[t]? = (fr ops (VU ks V U) (isDN ks) a i).tmps[t]? := by
        intro t ht
        have := fr_get2 (ops := ops) (VU ks V U) a d (isDN ks) i t ops.size (fun j hj hjt => by
          obtain ⟨y, hy⟩ : ∃ y, ops[j]? = some y := ⟨ops[j], Array.getElem?_eq_getElem hj⟩
          rw [hy] at hjt
          by_cases hc2 : cls ks j = 2
          · exact .inr ⟨hfz j hc2, .inl (by simp [isDN, hc2])⟩
          · have hdn : isDN ks j = true := by
              have := hthree j hj
              unfold isDN
              by_cases h0c : cls ks j = 0
              · simp [h0c]
              · have : cls ks j = 1 := by omega
                simp [this]
            rcases (pair i j o y t ho hy hci hc2 hjt).2 ht with ⟨h1, h2⟩ | ⟨h1, h2⟩
            · obtain ⟨e, e1, e2, e3⟩ := bindsOn_spec h2
              exact .inl ⟨h1, e3 ▸ hdeps e e1 e2, hdn⟩
            · refine .inr ⟨?_, .inr (by omega)⟩
              cases hdj : d j with
              | false => rfl
              | true =>
                obtain ⟨e, e1, e2, e3⟩ := bindsOn_spec h2
                have := hcl j y hy hdj e e1 e2
                rw [e3, hmay.1] at this; cases this)
        rw [this, show min ops.size i = i by omega]
      have hex : execOp (fr ops (VU ks V U) d a ops.size).eval o = execOp (fr ops (VU ks V U) (isDN ks) a i).eval o := by
        refine execOp_congr o (fun cs b => nosel i o cs b ho) (fun x hx => ?_)
        cases x with
        | tmp t => exact eval_get (hsame t (mem_looks hx))
        | _ => rfl
      have hwa := wanted_get hsame
      by_cases hc0 : cls ks i = 0
      · have hVi : V i = VU ks V U i := by unfold VU; rw [if_neg (by omega)]
        unfold wpOp
        rw [ho]
        simp only
        rcases hstD i o U (by simpa using ho) hc0 with ⟨h1, h2⟩ | ⟨h1, h2, h3⟩
        · rw [hwa, h1, if_pos rfl]
          refine .inl ?_
          unfold Oper.wp
          rw [hex]
          exact upv_upon (h2 _ d wx hI hmay (fun w' hI' => hnext U _ _ (hput _ _ hVi) hI'))
        · rw [hwa, h1]
          simp only [Bool.false_eq_true, if_false]
          exact hnext U _ _ (hput _ _ (h2.symm.trans hVi)) (h3 d wx hI hmay)
      · have hc1 : cls ks i = 1 := by have := hthree i hi; omega
        obtain ⟨hg, hrun⟩ := hstN i o U (by simpa using ho) hc1
        unfold wpOp
        rw [ho]
        simp only
        rw [if_pos (show Region.wanted o (yielded ops (fr ops (VU ks V U) d a ops.size).tmps) = true by simp [Region.wanted, hg])]
        refine .inl ?_
        unfold Oper.wp
        rw [hex]
        refine upv_upon (hrun _ d wx hI hmay (fun v w' hI' => ?_))
        have hU : ∀ j, j ≠ i → updU U i v j = U j := fun j hj => by unfold updU; rw [if_neg hj]
        have hUi : updU U i v i = v := by simp [updU]
        have hfr : fr ops (VU ks V U) d a ops.size = fr ops (VU ks V (updU U i v)) d a ops.size := fr_V a d _ _ _ (fun j _ hdj => by
          have hji : j ≠ i := by intro e; subst e; rw [hmay.1] at hdj; cases hdj
          unfold VU; rw [hU j hji])
        have hval : v = VU ks V (updU U i v) i := by unfold VU; rw [if_pos hc1, hUi]
        exact hnext (updU U i v) _ _ (by rw [hfr]; exact hput _ _ hval) hI'
    · have hci : cls ks i = 2 := by
        have h1 := hd i hi
        rw [hmay.1] at h1
        by_cases hc : cls ks i = 2
        · exact hc
        · simp [hc] at h1
      have him : ¬ i < m := by
        intro h
        have h1 := hd i hi
        rw [hmay.1, decide_eq_true h] at h1
        simp at h1
      have hbefore := tailb d i hcl hci hi hmay
      have hnone : ∀ j, m ≤ j → j < i → ks.getD j 2 ≠ 2 := by
        intro j h1 h2 h3
        have h4 := hbefore j (by omega) (.inr h2)
        rw [hd j (by omega)] at h4
        have : cls ks j = 2 := h3
        rw [this, decide_eq_false (show ¬ j < m by omega)] at h4
        simp at h4
      have hlo : ops.toList.length = ks.length := by simp [hlen]
      rw [tl_skip ops.toList ks m i (by omega) hnone (by omega) hlo, tl_here ops.toList ks i (by simpa using hi) (by omega) hci] at hw
      have hcloD : Closed ops (don d i) := by
        obtain ⟨o, ho⟩ : ∃ o, ops[i]? = some o := ⟨ops[i], Array.getElem?_eq_getElem hi⟩
        intro j o' hj hdj e e1 e2
        have : d e.on = true := by
          by_cases hji : j = i
          · subst hji; exact deps d j o' hmay hj e e1 e2
          · rw [don_other _ _ _ hji] at hdj
            exact hcl j o' hj hdj e e1 e2
        unfold don; split
        · rfl
        · exact this
      have key : ∀ x' w', wpList P ops Q (tl (ops.toList.drop (i + 1)) (ks.drop (i + 1))) x' w' → J1 (don d i) x' w' ∨ J2 (don d i) x' w' := fun x' w' h => .inr ⟨i + 1, by omega, hcloD, fun j hj => by
        by_cases hji : j = i
        · subst hji; rw [don_same]; simp
        · rw [don_other _ _ _ hji, hd j hj]
          by_cases hc : cls ks j = 2
          · have e : decide (j < m) = decide (j < i + 1) := by
              rw [decide_eq_decide]
              constructor
              · intro _; omega
              · intro h1
                rcases Nat.lt_or_ge j m with h2 | h2
                · exact h2
                · exact absurd hc (hnone j h2 (by omega))
            rw [e]
          · simp [hc], h⟩
      refine wpOp_mono key ?_
      unfold wpOp
      rw [Array.getElem?_eq_getElem hi]
      rw [show ops.toList[i] = ops[i] by simp] at hw
      exact hw
  · rintro d x wx (⟨_, _, _, _, _, j, hj, _, hdj⟩ | ⟨m, hm', hcl, hd, hw⟩) hall
    · have := hall j hj
      rw [hdj] at this; cases this
    · have hlo : ops.toList.length = ks.length := by simp [hlen]
      rw [tl_skip ops.toList ks m ops.size hm' (fun j h1 h2 h3 => by
        have h4 := hall j h2
        rw [hd j h2] at h4
        have : cls ks j = 2 := h3
        rw [this, decide_eq_false (show ¬ j < m by omega)] at h4
        simp at h4) (by omega) hlo, List.drop_eq_nil_of_le (by simp)] at hw
      unfold tl at hw
      exact hw
section
variable {I : (Nat → Bool) → (Nat → Value) → World → Prop} {E : ((Nat → Value) → Act) → Prop} {j : Nat} {o : Oper} {r : List Oper} {k : List Nat} {f f' : (Nat → Value) → Act} {v : Value}
theorem goD (hg : o.guard = none) (h : ∀ U (K : Value → World → Prop) d w, I d U w → may ops d j → (∀ w', I (don d j) U w' → K v w') → upv P K ((execOp (f U).eval o).run P w)) (he : ∀ U, (f U).put o.dst v = f' U)
    (hr : Walk P ops I E (j + 1) r k f') : Walk P ops I E j (o :: r) (0 :: k) f := by
  unfold Walk
  rw [if_pos rfl]
  have e : (fun U => (f U).put o.dst v) = f' := funext he
  exact ⟨v, fun U => .inl ⟨by simp [Region.wanted, hg], h U⟩, e ▸ hr⟩
theorem goDg (hg : ∀ U, Region.wanted o (yielded ops (f U).tmps) = true) (h : ∀ U (K : Value → World → Prop) d w, I d U w → may ops d j → (∀ w', I (don d j) U w' → K v w') → upv P K ((execOp (f U).eval o).run P w)) (he : ∀ U, (f U).put o.dst v = f' U)
    (hr : Walk P ops I E (j + 1) r k f') : Walk P ops I E j (o :: r) (0 :: k) f := by
  unfold Walk
  rw [if_pos rfl]
  have e : (fun U => (f U).put o.dst v) = f' := funext he
  exact ⟨v, fun U => .inl ⟨hg U, h U⟩, e ▸ hr⟩
theorem goD0 (hg : ∀ U, Region.wanted o (yielded ops (f U).tmps) = false) (h : ∀ U d w, I d U w → may ops d j → I (don d j) U w) (he : ∀ U, (f U).put o.dst undef = f' U)
    (hr : Walk P ops I E (j + 1) r k f') : Walk P ops I E j (o :: r) (0 :: k) f := by
  unfold Walk
  rw [if_pos rfl]
  have e : (fun U => (f U).put o.dst undef) = f' := funext he
  exact ⟨undef, fun U => .inr ⟨hg U, rfl, h U⟩, e ▸ hr⟩
theorem goN (hg : o.guard = none) (h : ∀ U (K : Value → World → Prop) d w, I d U w → may ops d j → (∀ v w', I (don d j) (updU U j v) w' → K v w') → upv P K ((execOp (f U).eval o).run P w)) (he : ∀ U, (f U).put o.dst (U j) = f' U)
    (hr : Walk P ops I E (j + 1) r k f') : Walk P ops I E j (o :: r) (1 :: k) f := by
  unfold Walk
  rw [if_neg (by decide), if_pos rfl]
  have e : (fun U => (f U).put o.dst (U j)) = f' := funext he
  exact ⟨hg, h, e ▸ hr⟩
theorem goT (hr : Walk P ops I E (j + 1) r k f) : Walk P ops I E j (o :: r) (2 :: k) f := by
  unfold Walk
  rw [if_neg (by decide), if_neg (by decide)]
  exact hr
theorem go_end (h : E f) : Walk P ops I E j [] [] f := by
  unfold Walk; exact h
end
end RH
end Go.Proofs.YtmlddefoehgofabDoor
/- code: bytes behind bytes, in any order; whether an operation is short. -/
namespace Go.Proofs.YtmlddefoehgofabDoor
namespace Cd
open Go.RowKit Go.Maps RI RH
theorem cuU_s (U : Nat → Value) (i : Nat) (x : Value) : updU U i x i = x := by simp [updU]
/-- A row of bytes of a call's own. -/
def Rb (B : Nat) (l : List UInt8) (v : Value) (w : World) : Prop := w.ownsRow B 5 1 v l.length (Pk.bcs l)
theorem Rb_below {B : Nat} {l : List UInt8} {v : Value} {w w' : World} (h : Rb B l v w) (hb : Below w.heap.size w w') : Rb B l v w' := h.kept (⟨hb.os, hb.tape, hb.output, hb.size, fun j hj _ => hb.block j hj⟩ : w.grownBy w' none) ((Classical.em (v.ownBlock = none)).elim .inl .inr)
theorem Rb_nil (B : Nat) (w : World) : Rb B [] (.slice none 0 0) w := World.ownsRow_nil _ _ _ _
theorem Rb_lt {B : Nat} {l : List UInt8} {v : Value} {w : World} (h : Rb B l v w) : ∀ g, v.ownBlock = some g → B ≤ g ∧ g < w.heap.size := fun g hg => Sp.own_lo h g hg
theorem Rb_map {B : Nat} {l : List UInt8} {v : Value} {w : World} {bm : Nat} (h : Rb B l v w) (hm : Om bm w) : some bm ≠ v.ownBlock := by
  intro e
  obtain ⟨es, clock, hb, _⟩ := hm
  rcases h.2 with ⟨h3, _⟩ | ⟨g, cap, cur, h3, h5⟩
  · subst h3; cases e
  · subst h3
    injection e with e
    subst e
    have := h5.2.1
    rw [hb] at this
    cases this
theorem Rb_sl {B : Nat} {l : List UInt8} {v : Value} {w : World} (h : Rb B l v w) : Sl l v w := by
  rcases h.2 with ⟨h3, h4⟩ | ⟨g, cap, cur, h3, h5⟩
  · have e : l = [] := List.length_eq_zero_iff.1 h4
    subst e h3
    exact sl_nil w
  · have h6 := h
    subst h3
    refine ⟨_, cap, rfl, h5.2.2.1, fun h0 => ⟨g, 0, rfl, Pk.lt_of_heap h5.2.1, fun j hj => ?_⟩⟩
    rw [Nat.zero_add, h6.cellAt j (by omega)]
    simp [Pk.bcs, Sp.bz, hj]
theorem Om_grown {b : Nat} {w w' : World} {row : Option Nat} (h : Om b w) (hg : w.grownBy w' row) (hne : some b ≠ row) : Om b w' := World.ownsMap.kept h hg hne
theorem Sn_grown {B : Nat} {b : List UInt8} {ao : Option Addr} {cap : Nat} {w w' : World} {row : Option Nat} (h : Sn B b ao cap w) (hg : w.grownBy w' row) (hr : ∀ g, row = some g → g < B) : Sn B b ao cap w' := by
  refine ⟨?_, h.2⟩
  obtain ⟨a1, c1, e1, h1, h2⟩ := h.1
  injection e1 with e1 e2 e3
  subst e1 e3
  refine ⟨ao, cap, rfl, h1, fun h0 => ?_⟩
  obtain ⟨k, off, rfl, hk, hc⟩ := h2 h0
  have hB : B ≤ k := h.2 _ rfl
  refine ⟨k, off, rfl, Nat.lt_of_lt_of_le hk hg.size, fun j hj => ?_⟩
  rw [World.cell?_of_block (hg.block k hk (fun e => by have := hr k e.symm; omega))]
  exact hc j hj
/-- What holds while code grows by an operation, and by what it has behind it. -/
structure J9 (B K bm h : Nat) (w0 : World) (C : List UInt8) (y : UInt8) (vc : Value) (b : List UInt8) (ao : Option Addr) (cap : Nat) (d : Nat → Bool) (U : Nat → Value) (wx : World) : Prop where
  bel : Below B w0 wx
  sz : K ≤ wx.heap.size ∧ h < wx.heap.size
  om : Om bm wx
  a : d 4 = false → Rb B C vc wx
  u3 : d 3 = true → d 4 = false → ∃ g, U 3 = .slice (some ⟨g, 0, none⟩) 1 1 ∧ g < wx.heap.size ∧ wx.cell? ⟨g, 0, none⟩ = some (.int .u8 (y.toNat : Int))
  bx : d 7 = false → wx.cell? ⟨h, 0, none⟩ = some (.int .u8 (y.toNat : Int)) ∧ wx.cell? ⟨h, 1, none⟩ = some (.slice ao b.length cap) ∧ Sn K b ao cap wx
  u4 : d 4 = true → d 7 = false → Rb B (C ++ [y]) (U 4) wx
  u7 : d 7 = true → Rb B (C ++ [y] ++ b) (U 7) wx
  q7 : d 7 = true → d 4 = true ∧ d 6 = true ∧ d 2 = true
  q4 : d 4 = true → d 3 = true ∧ d 2 = true
  q3 : d 3 = true → d 2 = true
variable {B K bm h : Nat} {w0 : World} {C : List UInt8} {y : UInt8} {vc : Value} {b : List UInt8} {ao : Option Addr} {cap : Nat} {d : Nat → Bool} {U : Nat → Value} {wx : World}
theorem J9.keep {i : Nat} (hi : i ≠ 3 ∧ i ≠ 4 ∧ i ≠ 7) (H : J9 B K bm h w0 C y vc b ao cap d U wx) : J9 B K bm h w0 C y vc b ao cap (don d i) U wx := by
  have e3 : don d i 3 = d 3 := don_other _ _ _ (fun e => hi.1 e.symm)
  have e4 : don d i 4 = d 4 := don_other _ _ _ (fun e => hi.2.1 e.symm)
  have e7 : don d i 7 = d 7 := don_other _ _ _ (fun e => hi.2.2 e.symm)
  have m : ∀ k, d k = true → don d i k = true := fun k hk => by
    by_cases e : k = i
    · subst e; exact don_same _ _
    · rw [don_other _ _ _ e]; exact hk
  refine ⟨H.bel, H.sz, H.om, ?_, ?_, ?_, ?_, ?_, ?_, ?_, ?_⟩
  · rw [e4]; exact H.a
  · rw [e3, e4]; exact H.u3
  · rw [e7]; exact H.bx
  · rw [e4, e7]; exact H.u4
  · rw [e7]; exact H.u7
  · rw [e7]; exact fun q => ⟨m _ (H.q7 q).1, m _ (H.q7 q).2.1, m _ (H.q7 q).2.2⟩
  · rw [e4]; exact fun q => ⟨m _ (H.q4 q).1, m _ (H.q4 q).2⟩
  · rw [e3]; exact fun q => m _ (H.q3 q)
theorem J9.n7 (H : J9 B K bm h w0 C y vc b ao cap d U wx) (hd : d 6 = false ∨ d 2 = false ∨ d 4 = false) : d 7 = false := by
  cases e : d 7
  · rfl
  · obtain ⟨h1, h2, h3⟩ := H.q7 e
    rcases hd with k | k | k
    · rw [h2] at k; cases k
    · rw [h3] at k; cases k
    · rw [h1] at k; cases k
theorem J9.n4 (H : J9 B K bm h w0 C y vc b ao cap d U wx) (hd : d 3 = false) : d 4 = false := by
  cases e : d 4
  · rfl
  · rw [(H.q4 e).1] at hd; cases hd
theorem J9.start (hb : Below B w0 wx) (hs : K ≤ wx.heap.size ∧ h < wx.heap.size) (ho : Om bm wx) (hr : Rb B C vc wx) (h0 : wx.cell? ⟨h, 0, none⟩ = some (.int .u8 (y.toNat : Int))) (h1 : wx.cell? ⟨h, 1, none⟩ = some (.slice ao b.length cap)) (hn : Sn K b ao cap wx) : J9 B K bm h w0 C y vc b ao cap (fun _ => false) (fun _ => undef) wx :=
  ⟨hb, hs, ho, fun _ => hr, nofun, fun _ => ⟨h0, h1, hn⟩, nofun, nofun, nofun, nofun, nofun⟩
theorem J9.step3 (H : J9 B K bm h w0 C y vc b ao cap d U wx) (h3 : d 3 = false) (h2 : d 2 = true) (hB : B ≤ K) : J9 B K bm h w0 C y vc b ao cap (don d 3) (updU U 3 (.slice (some ⟨wx.heap.size, 0, none⟩) 1 1)) (wx.alloc (.cells #[.int .u8 (y.toNat : Int)] 5)) := by
  have h4 := H.n4 h3
  have h7 := H.n7 (.inr (.inr h4))
  have e2 : don d 3 2 = d 2 := don_other _ _ _ (by decide)
  have e4 : don d 3 4 = false := by rw [don_other _ _ _ (by decide)]; exact h4
  have e7 : don d 3 7 = false := by rw [don_other _ _ _ (by decide)]; exact h7
  have bA : Below wx.heap.size wx (wx.alloc (.cells #[.int .u8 (y.toNat : Int)] 5)) := (Below.refl _ _).alloc (Nat.le_refl _) _
  obtain ⟨b0, b1, b2⟩ := H.bx h7
  refine ⟨H.bel.trans (bA.mono (Nat.le_trans hB H.sz.1)), ⟨Nat.le_trans H.sz.1 bA.size, Nat.lt_of_lt_of_le H.sz.2 bA.size⟩, Om_below H.om bA, fun _ => Rb_below (H.a h4) bA, fun _ _ => ?_, fun _ => ⟨(bA.cell (p := ⟨h, 0, none⟩) H.sz.2).trans b0, (bA.cell (p := ⟨h, 1, none⟩) H.sz.2).trans b1, Sn_below b2 bA⟩, fun k => ?_, fun k => ?_, fun k => ?_, fun k => ?_, fun _ => by rw [e2]; exact h2⟩
  · rw [cuU_s]
    exact ⟨wx.heap.size, rfl, by simp, by simp⟩
  · rw [e4] at k; cases k
  · rw [e7] at k; cases k
  · rw [e7] at k; cases k
  · rw [e4] at k; cases k
theorem one_sl {g : Nat} (hg : g < wx.heap.size) (hc : wx.cell? ⟨g, 0, none⟩ = some (.int .u8 (y.toNat : Int))) : Pk.Sl [y] (.slice (some ⟨g, 0, none⟩) 1 1) wx :=
  ⟨_, 1, rfl, Nat.le_refl _, fun _ => ⟨g, 0, rfl, hg, fun j hj => by
    obtain rfl : j = 0 := by simp at hj; omega
    exact hc⟩⟩
theorem J9.step4 (H : J9 B K bm h w0 C y vc b ao cap d U wx) (h4 : d 4 = false) (h3 : d 3 = true) (hB : B ≤ K) (hv : ∀ g, vc.ownBlock = some g → g < K) (hh : K ≤ h) (hl : C.length + 1 ≤ 4194304) (ty : TypeId) :
    ∃ v' w', (Builtin.append_ #[22, 22] ty #[vc, U 3]).run Tryd.prog wx = .ok v' w' ∧ J9 B K bm h w0 C y vc b ao cap (don d 4) (updU U 4 v') w' := by
  have h7 := H.n7 (.inr (.inr h4))
  obtain ⟨g, hu, hg, hc⟩ := H.u3 h3 h4
  have hr := H.a h4
  obtain ⟨v', w', ha, ho, hgr, _⟩ := Sp.app_own ty hr (one_sl hg hc) (Nat.le_trans hB H.sz.1) (by simp; omega)
  rw [hu]
  obtain ⟨b0, b1, b2⟩ := H.bx h7
  have e2 : don d 4 2 = d 2 := don_other _ _ _ (by decide)
  have e3 : don d 4 3 = d 3 := don_other _ _ _ (by decide)
  have e7 : don d 4 7 = false := by rw [don_other _ _ _ (by decide)]; exact h7
  have e4 : don d 4 4 = true := don_same _ _
  have hk : ∀ i, w'.cell? ⟨h, i, none⟩ = wx.cell? ⟨h, i, none⟩ := fun i => World.cell?_of_block (hgr.block h H.sz.2 (fun e => by have := hv h e.symm; omega))
  refine ⟨v', w', ha, H.bel.grown hgr (Nat.le_trans hB H.sz.1) (fun k hk => (Rb_lt hr k hk).1), ⟨Nat.le_trans H.sz.1 hgr.size, Nat.lt_of_lt_of_le H.sz.2 hgr.size⟩, Om_grown H.om hgr (Rb_map hr H.om), fun k => ?_, fun _ k => ?_, fun _ => ⟨by rw [hk]; exact b0, by rw [hk]; exact b1, Sn_grown b2 hgr hv⟩, fun _ _ => ?_, fun k => ?_, fun k => ?_, fun _ => ?_, fun k => ?_⟩
  · rw [e4] at k; cases k
  · rw [e4] at k; cases k
  · rw [cuU_s]; exact ho
  · rw [e7] at k; cases k
  · rw [e7] at k; cases k
  · rw [e3, e2]; exact ⟨h3, H.q3 h3⟩
  · rw [e3] at k; rw [e2]; exact H.q3 k
theorem J9.step7 (H : J9 B K bm h w0 C y vc b ao cap d U wx) (h7 : d 7 = false) (h4 : d 4 = true) (h6 : d 6 = true) (hB : B ≤ K) (hl : C.length + 1 + b.length ≤ 4194304) (ty : TypeId) :
    ∃ v' w', (Builtin.append_ #[22, 22] ty #[U 4, .slice ao b.length cap]).run Tryd.prog wx = .ok v' w' ∧ J9 B K bm h w0 C y vc b ao cap (don d 7) (updU U 7 v') w' := by
  have hr := H.u4 h4 h7
  obtain ⟨b0, b1, b2⟩ := H.bx h7
  obtain ⟨v', w', ha, ho, hgr, _⟩ := Sp.app_own ty hr (show Pk.Sl b (.slice ao b.length cap) wx from b2.1) (Nat.le_trans hB H.sz.1) (by simp; omega)
  have e2 : don d 7 2 = d 2 := don_other _ _ _ (by decide)
  have e3 : don d 7 3 = d 3 := don_other _ _ _ (by decide)
  have e4 : don d 7 4 = d 4 := don_other _ _ _ (by decide)
  have e6 : don d 7 6 = d 6 := don_other _ _ _ (by decide)
  have e7 : don d 7 7 = true := don_same _ _
  refine ⟨v', w', ha, H.bel.grown hgr (Nat.le_trans hB H.sz.1) (fun k hk => (Rb_lt hr k hk).1), ⟨Nat.le_trans H.sz.1 hgr.size, Nat.lt_of_lt_of_le H.sz.2 hgr.size⟩, Om_grown H.om hgr (Rb_map hr H.om), fun k => ?_, fun _ k => ?_, fun k => ?_, fun _ k => ?_, fun _ => ?_, fun _ => ?_, fun _ => ?_, fun k => ?_⟩
  · rw [e4, h4] at k; cases k
  · rw [e4, h4] at k; cases k
  · rw [e7] at k; cases k
  · rw [e7] at k; cases k
  · rw [cuU_s]; exact ho
  · rw [e4, e6, e2]; exact ⟨h4, h6, (H.q4 h4).2⟩
  · rw [e3, e2]; exact H.q4 h4
  · rw [e3] at k; rw [e2]; exact H.q3 k
set_option maxRecDepth 100000 in
theorem short_any (x : Nat) (hx : x < 256) (ao : Option Addr) (n cap : Nat) (w : World) : Calls Tryd.prog 27 #[.agg #[.int .u8 (x : Int), .slice ao n cap]] w fun e w' => e = .returned (.bool (decide (n < psh (x : Int)))) ∧ Below w.heap.size w w' := by
  have KU : Hid (∀ W : World, Calls Tryd.prog 28 #[.int .u8 (x : Int)] W fun e w' => e = .returned (.int .i64 (psh (x : Int) : Int)) ∧ Below W.heap.size W w') := fun W => pushed_any _ (by omega) (by omega) W
  generalize psh (x : Int) = P at *
  generalize (x : Int) = X at *
  clear hx
  go_enter Tryd.func27, Tryd.ntmps27
  go_upto_region 1 with fail
  have c0 : (w.alloc (.cells #[.int .u8 X, .slice ao n cap] 43)).cell? ⟨w.heap.size, 0, none⟩ = some (.int .u8 X) := by simp
  have e0 : (w.alloc (.cells #[.int .u8 X, .slice ao n cap] 43)).cell? ⟨w.heap.size, 1, none⟩ = some (.slice ao n cap) := by simp
  have b0 : Below w.heap.size w (w.alloc (.cells #[.int .u8 X, .slice ao n cap] 43)) := (Below.refl _ _).alloc (Nat.le_refl _) _
  have z0 : w.heap.size < (w.alloc (.cells #[.int .u8 X, .slice ao n cap] 43)).heap.size := by simp
  generalize w.alloc (.cells #[.int .u8 X, .slice ao n cap] 43) = W0 at *
  refine RS.wp_region_one (fun wx => Below W0.heap.size W0 wx) (by kernel_rfl) (by kernel_rfl) ((Below.refl _ _).drew) ?_
  dsimp only [List.toList_toArray]
  refine RS.go1 (v := ?_) (a' := ?_) rfl ?_ ?_ ?_
  rotate_left 2
  · intro K wx hS hK
    go_simp
    exact hK _ hS
  · simp only [Act.put, List.setIfInBounds_toArray, List.set_cons_succ, List.set_cons_zero]
    rfl
  refine RS.go1 (v := ?_) (a' := ?_) rfl ?_ ?_ ?_
  rotate_left 2
  · intro K wx hS hK
    have x1 := (hS.cell (p := ⟨w.heap.size, 1, none⟩) z0).trans e0
    go_simp
    exact hK _ hS
  · simp only [Act.put, List.setIfInBounds_toArray, List.set_cons_succ, List.set_cons_zero]
    rfl
  refine RS.go1 (v := ?_) (a' := ?_) rfl ?_ ?_ ?_
  rotate_left 2
  · intro K wx hS hK
    go_simp
    exact hK _ hS
  · simp only [Act.put, List.setIfInBounds_toArray, List.set_cons_succ, List.set_cons_zero]
    rfl
  refine RS.go1 (v := ?_) (a' := ?_) rfl ?_ ?_ ?_
  rotate_left 2
  · intro K wx hS hK
    go_simp
    exact hK _ hS
  · simp only [Act.put, List.setIfInBounds_toArray, List.set_cons_succ, List.set_cons_zero]
    rfl
  refine RS.go1 (v := ?_) (a' := ?_) rfl ?_ ?_ ?_
  rotate_left 2
  · intro K wx hS hK
    have x0 := (hS.cell (p := ⟨w.heap.size, 0, none⟩) z0).trans c0
    go_simp
    exact hK _ hS
  · simp only [Act.put, List.setIfInBounds_toArray, List.set_cons_succ, List.set_cons_zero]
    rfl
  refine RS.go1 (v := ?_) (a' := ?_) rfl ?_ ?_ ?_
  rotate_left 2
  · intro K wx hS hK
    go_simp
    refine (KU.out wx).mono (fun e w2 he => ?_)
    refine ⟨_, he.1, ?_⟩
    exact hK _ ((fun hS hb => Below.trans hS (Below.mono hb (Below.size hS))) hS he.2)
  · simp only [Act.put, List.setIfInBounds_toArray, List.set_cons_succ, List.set_cons_zero]
    rfl
  refine RS.go1 (v := ?_) (a' := ?_) rfl ?_ ?_ ?_
  rotate_left 2
  · intro K wx hS hK
    go_simp
    exact hK _ hS
  · simp only [Act.put, List.setIfInBounds_toArray, List.set_cons_succ, List.set_cons_zero]
    rfl
  refine RS.go1 (v := ?_) (a' := ?_) rfl ?_ ?_ ?_
  rotate_left 2
  · intro K wx hS hK
    go_simp
    exact hK _ hS
  · simp only [Act.put, List.setIfInBounds_toArray, List.set_cons_succ, List.set_cons_zero]
    rfl
  refine RS.go_end ?_
  intro w9 h9
  have H9 : Hid (Below w.heap.size w w9) := b0.trans (h9.mono b0.size)
  clear h9 b0 c0 e0 z0
  go_wp2_with fail
  go_ret
  exact ⟨rfl, H9.out⟩
end Cd
end Go.Proofs.YtmlddefoehgofabDoor
/- code.Assemble. -/
namespace Go.Proofs.YtmlddefoehgofabDoor
namespace Cd
open Go.RowKit Go.Maps RI RH
theorem ap_up4 {P : Program} {K : Value → World → Prop} {a : Act} {o : Oper} {s x : Operand} {t : TypeId} {v v2 v' : Value} {w w' : World} (ho : o.op = .call { callee := .builtin .append, args := #[s, x], argTypes := #[t, t] }) (hs : a.eval s = v) (hx : a.eval x = v2)
    (hr : (Builtin.append_ #[t, t] o.type #[v, v2]).run P w = .ok v' w') (hK : K v' w') : RS.upv P K ((execOp a.eval o).run P w) := by
  unfold execOp
  simp only [ho, resolve, invoke, builtin, Sem.run_bind, Sem.run_pure, Result.andThen_ok, List.map_toArray, List.map_cons, List.map_nil, hs, hx, hr]
  exact hK
/-- A slice of strings that is read. -/
def Vg (ls : List (List UInt8)) (ao : Option Addr) (w : World) : Prop := 0 < ls.length → ∃ g off, ao = some ⟨g, off, none⟩ ∧ g < w.heap.size ∧ ∀ j, j < ls.length → w.cell? ⟨g, off + j, none⟩ = some (.string (sb (ls.getD j [])))
theorem Vg_below {ls : List (List UInt8)} {ao : Option Addr} {w w' : World} (h : Vg ls ao w) (hb : Below w.heap.size w w') : Vg ls ao w' := fun h0 => by
  obtain ⟨g, off, e, hg, hc⟩ := h h0
  exact ⟨g, off, e, Nat.lt_of_lt_of_le hg hb.size, fun j hj => (hb.cell (p := ⟨g, off + j, none⟩) hg).trans (hc j hj)⟩
theorem Rg_vg {B : Nat} {ls : List (List UInt8)} {v : Value} {w : World} (h : Rg B ls v w) : ∃ ao cap, v = .slice ao ls.length cap ∧ ls.length ≤ cap ∧ Vg ls ao w := by
  rcases h.2 with ⟨h3, h4⟩ | ⟨g, cap, cur, h3, h5⟩
  · exact ⟨none, 0, by rw [h3, h4], by omega, fun h0 => by omega⟩
  · have h6 := h
    subst h3
    refine ⟨_, cap, rfl, h5.2.2.1, fun h0 => ⟨g, 0, rfl, Pk.lt_of_heap h5.2.1, fun j hj => ?_⟩⟩
    rw [Nat.zero_add, h6.cellAt j (by omega)]
    simp [scs, hj]
/-- How many bytes lines come to. -/
def pl : List (List UInt8) → Nat
  | [] => 0
  | l :: r => (match rdl l with
    | some (_, b) => 1 + b.length
    | none => 0) + pl r
theorem pl_dis : ∀ (n : Nat) (c : List UInt8), c.length ≤ n → pl (dis c) = c.length
  | _, [], _ => by rw [dis_nil]; rfl
  | 0, x :: r, h => by simp at h
  | n + 1, x :: r, h => by
    rw [dis_cons, pl, rdl_ln x.toNat x.toNat_lt _ (by rw [List.length_take]; omega)]
    dsimp only
    rw [pl_dis n _ (by rw [List.length_drop]; simp at h; omega), List.length_take, List.length_drop]
    show 1 + min (psh (x.toNat : Int)) r.length + (r.length - psh (x.toNat : Int)) = r.length + 1
    rcases Nat.le_total (psh (x.toNat : Int)) r.length with k | k
    · rw [Nat.min_eq_left k]; omega
    · rw [Nat.min_eq_right k]; omega
theorem gd_drop (ls : List (List UInt8)) (i : Nat) (hi : i < ls.length) : ls.drop i = ls.getD i [] :: ls.drop (i + 1) := by
  rw [List.drop_eq_getElem_cons hi, List.getD_eq_getElem?_getD, List.getElem?_eq_getElem hi]
  rfl
theorem stmW (i n : Nat) (h : i < n) (hn : n ≤ 4194304) : Hid (((n : Int) - intOf (.int .i64 (wrap64 ((i : Int) + 1)))).toNat < ((n : Int) - intOf (.int .i64 (i : Int))).toNat) := by
  rw [(stwI i n h hn).out]
  show ((n : Int) - ((i : Int) + 1)).toNat < ((n : Int) - (i : Int)).toNat
  omega
/-- What Assemble answers. -/
def AS (r : Option (List UInt8)) (w : World) (e : Ending) (w' : World) : Prop := ∃ (v : Value) (k : Int), e = .returned (.tuple #[v, .int .i64 k]) ∧ (∀ C, r = some C → k = 0 ∧ Rb w.heap.size C v w') ∧ (r = none → k = 1 ∧ v = .slice none 0 0) ∧ Below w.heap.size w w'
set_option maxHeartbeats 4000000 in
set_option maxRecDepth 100000 in
theorem asm_any (ls : List (List UInt8)) (n : Nat) (hn : Hid (n = ls.length)) (hz : Hid (n ≤ 1048576 ∧ pl ls ≤ 4194304)) (hl : Hid (∀ l, l ∈ ls → l.length ≤ 2097154)) (ao : Option Addr) (cap : Nat) (w : World) (hv : Hid (Vg ls ao w)) : Calls Tryd.prog 14 #[.slice ao n cap] w (AS (asm ls) w) := by
  obtain ⟨R, hR⟩ : ∃ R, Hid (R = asm ls) := ⟨_, rfl⟩
  rw [← hR.out]
  go_enter Tryd.func14, Tryd.ntmps14
  go_wp2_with fail
  refine (ops_any w).mono ?_
  rintro e wA ⟨bm, rfl, omA, bA⟩
  have OA : Hid (Om bm wA ∧ Below w.heap.size w wA) := ⟨omA, bA⟩
  clear omA bA
  go_wp2_with fail
  go_loopw [4, 13] (fun v p wr => ∃ (i : Nat) (C : List UInt8), i ≤ n ∧ p = .int .i64 (i : Int) ∧ asm ls = (asm (ls.drop i)).map (C ++ ·) ∧ C.length + pl (ls.drop i) ≤ 4194304 ∧ Rb w.heap.size C v wr ∧ Om bm wr ∧ Below w.heap.size w wr) (fun _ p _ => ((n : Int) - intOf p).toNat)
  case atStart => exact ⟨0, [], Nat.zero_le _, rfl, by simp, by simpa using hz.out.2, Rb_nil _ _, OA.out.1, OA.out.2⟩
  case round =>
    obtain ⟨i, C, hi, rfl, ha, hp, hr, hm, hb⟩ := hrel
    by_cases hlt : i < n
    · have d0 : (0 : Int) ≤ (i : Int) := by omega
      have d1 : (i : Int) < (n : Int) := by omega
      have hil : i < ls.length := by rw [← hn.out]; exact hlt
      obtain ⟨g, off, rfl, hg, hc⟩ := hv.out (by omega)
      have cl := (hb.cell (p := ⟨g, off + i, none⟩) hg).trans (hc i hil)
      have HD : Hid (ls.drop i = ls.getD i [] :: ls.drop (i + 1)) := gd_drop ls i hil
      obtain ⟨l, hll⟩ : ∃ l, Hid (l = ls.getD i []) := ⟨_, rfl⟩
      rw [← hll.out] at cl HD
      have KL : Hid (∀ W : World, Below wr.heap.size wr W → Calls Tryd.prog 26 #[.string (sb l), .map (some bm)] W (RL (rdl l) W)) := fun W hW => line_read l (by show _ ≤ _; rw [hll.out, List.getD_eq_getElem?_getD, List.getElem?_eq_getElem hil]; exact hl.out _ (List.getElem_mem hil)) bm W (Om_below hm hW)
      have HA : Hid _ := ha
      have HP : Hid _ := hp
      have HR : Hid _ := hr
      have HM : Hid (Om bm wr) := hm
      have HB : Hid (Below w.heap.size w wr) := hb
      clear hb hr hm hc hg ha hp
      go_wp2_with fail
      refine (KL.out wr (Below.refl _ _)).mono ?_
      rintro e w1 ⟨y, bo, m, bc, rfl, hr1, b1⟩
      have R1 : Hid (Rb w.heap.size C u4 w1) := Rb_below HR.out b1
      have M1 : Hid (Om bm w1) := Om_below HM.out b1
      have B1 : Hid (Below w.heap.size w w1) := HB.out.trans (b1.mono HB.out.size)
      have Z1 : Hid (wr.heap.size ≤ w1.heap.size) := b1.size
      have HV : Hid (∀ g, u4.ownBlock = some g → g < wr.heap.size) := fun g hg => (Rb_lt HR.out g hg).2
      have HW : Hid (w.heap.size ≤ wr.heap.size) := HB.out.size
      clear b1 HR HM HB KL
      cases hrd : rdl l with
      | none =>
        have e1 : Hid (R = none) := by
          show _ = _
          rw [hR.out, HA.out, HD.out, asm, hrd]
          rfl
        clear hr1 HP HA HD hrd
        go_wp2_with fail
        go_ret2
        rw [e1.out]
        exact ⟨_, _, rfl, fun C h => (by cases h), fun _ => ⟨rfl, rfl⟩, B1.out.trans (((Below.refl _ _).alloc (Nat.le_refl _) _).mono B1.out.size)⟩
      | some q =>
        obtain ⟨x, b⟩ := q
        obtain ⟨e1, e2, sn⟩ := hr1 x b hrd
        subst e1
        obtain ⟨hx, hbl, _⟩ := rdl_some hrd
        have hD : asm (ls.drop i) = if b.length < psh (x : Int) ∧ ls.drop (i + 1) ≠ [] then none else (asm (ls.drop (i + 1))).map fun c => UInt8.ofNat x :: (b ++ c) := by rw [HD.out, asm, hrd]
        have hP : C.length + (1 + b.length + pl (ls.drop (i + 1))) ≤ 4194304 := by
          have := HP.out
          rw [HD.out, pl, hrd] at this
          exact this
        have hne : ls.drop (i + 1) ≠ [] ↔ i + 1 < n := by
          rw [hn.out]
          constructor
          · intro h
            exact Classical.byContradiction fun h2 => h (List.drop_eq_nil_of_le (by omega))
          · intro h e
            have := congrArg List.length e
            rw [List.length_drop] at this
            simp at this
            omega
        have bA : Below w1.heap.size w1 (w1.alloc (.cells #[.int .u8 (x : Int), .slice bo m bc] 43)) := (Below.refl _ _).alloc (Nat.le_refl _) _
        have cA0 : (w1.alloc (.cells #[.int .u8 (x : Int), .slice bo m bc] 43)).cell? ⟨w1.heap.size, 0, none⟩ = some (.int .u8 (x : Int)) := by simp
        have cA1 : (w1.alloc (.cells #[.int .u8 (x : Int), .slice bo m bc] 43)).cell? ⟨w1.heap.size, 1, none⟩ = some (.slice bo m bc) := by simp
        have zA : w1.heap.size < (w1.alloc (.cells #[.int .u8 (x : Int), .slice bo m bc] 43)).heap.size := by simp
        have KS : Hid (∀ W : World, Calls Tryd.prog 27 #[.agg #[.int .u8 (x : Int), .slice bo m bc]] W fun e w' => e = .returned (.bool (decide (m < psh (x : Int)))) ∧ Below W.heap.size W w') := fun W => short_any x hx bo m bc W
        have SN : Hid (Sn wr.heap.size b bo bc w1) := sn
        have HMB : Hid (m = b.length) := e2
        have wn : wrap64 ((n : Int) - 1) = (n : Int) - 1 := by have := hz.out.1; unfold wrap64; omega
        rw [← e2] at hD hP
        clear hr1 HP HD hrd sn e2 hbl
        generalize psh (x : Int) = P at *
        by_cases hs : m < P
        · have hs1 : decide (m < P) = true := decide_eq_true hs
          rw [hs1] at KS
          by_cases hq : i + 1 < n
          · have e1 : Hid (R = none) := by
              show _ = _
              rw [hR.out, HA.out, hD, if_pos ⟨hs, hne.2 hq⟩]
              rfl
            have q1 : (i : Int) < (n : Int) - 1 := by omega
            clear hD hP hne HA hs hs1
            go_wp2_with fail
            generalize w1.alloc (.cells #[.int .u8 (x : Int), .slice bo m bc] 43) = WA at *
            refine (KS.out WA).mono ?_
            rintro e w2 ⟨rfl, b2⟩
            have B2 : Hid (Below w.heap.size w w2) := B1.out.trans ((bA.trans (b2.mono bA.size)).mono B1.out.size)
            clear bA b2 B1 KS R1 M1 cA0 cA1 zA
            go_wp2_with fail
            go_ret2
            rw [e1.out]
            exact ⟨_, _, rfl, fun C h => (by cases h), fun _ => ⟨rfl, rfl⟩, B2.out⟩
          · have HA2 : Hid (asm ls = (asm (ls.drop (i + 1))).map ((C ++ [UInt8.ofNat x] ++ b) ++ ·)) := by
              show _ = _
              rw [HA.out, hD, if_neg (fun h => hq (hne.1 h.2)), Option.map_map]
              congr 1
              funext c
              simp
            have q1 : ¬ (i : Int) < (n : Int) - 1 := by omega
            have q2 : decide ((i : Int) < (n : Int) - 1) = false := decide_eq_false q1
            clear hD hne HA hs hs1
            go_wp2_with fail
            generalize w1.alloc (.cells #[.int .u8 (x : Int), .slice bo m bc] 43) = WA at *
            refine (KS.out WA).mono ?_
            rintro e w2 ⟨rfl, b2⟩
            have b02 := (bA.trans (b2.mono bA.size))
            have B2 : Hid (Below w.heap.size w w2) := B1.out.trans (b02.mono B1.out.size)
            have R2 : Hid (Rb w.heap.size C u4 w2) := Rb_below R1.out b02
            have M2 : Hid (Om bm w2) := Om_below M1.out b02
            have S2 : Hid (Sn wr.heap.size b bo bc w2) := Sn_below SN.out b02
            have D0 : Hid (w2.cell? ⟨w1.heap.size, 0, none⟩ = some (.int .u8 (x : Int)) ∧ w2.cell? ⟨w1.heap.size, 1, none⟩ = some (.slice bo m bc)) := ⟨(b2.cell (p := ⟨w1.heap.size, 0, none⟩) zA).trans cA0, (b2.cell (p := ⟨w1.heap.size, 1, none⟩) zA).trans cA1⟩
            have HH : Hid (wr.heap.size ≤ w1.heap.size ∧ w1.heap.size < w2.heap.size) := ⟨Z1.out, Nat.lt_of_lt_of_le zA b2.size⟩
            generalize w1.heap.size = h at D0 HH ⊢
            clear bA b2 b02 B1 KS R1 M1 cA0 cA1 zA SN
            obtain ⟨y, hy⟩ : ∃ y : UInt8, Hid (y = UInt8.ofNat x) := ⟨_, rfl⟩
            have hyx : (y.toNat : Int) = (x : Int) := by rw [hy.out]; simp; omega
            rw [← hy.out] at HA2
            rw [← hyx] at D0 ⊢
            clear hyx
            have hlen : C.length + 1 + m ≤ 4194304 := by omega
            rw [HMB.out] at D0 hlen ⊢
            go_upto_region 9 with fail
            refine RH.wp_region_genI (J9 w.heap.size wr.heap.size bm h w C y u4 b bo bc) [0, 0, 0, 1, 1, 0, 0, 1, 2] (by kernel_rfl) (by kernel_rfl) ((J9.start B2.out.drew ⟨Nat.le_trans HH.out.1 (Nat.le_of_lt HH.out.2), HH.out.2⟩ M2.out R2.out D0.out.1 D0.out.2 S2.out)) ?_
            dsimp only [List.toList_toArray]
            refine RH.goD (v := ?_) (f' := ?_) rfl ?_ ?_ ?_
            rotate_left 2
            · intro U K d wx hI hmay hK
              go_simp
              exact hK _ (J9.keep (by decide) hI)
            · intro U
              simp only [Act.put, List.setIfInBounds_toArray, List.set_cons_succ, List.set_cons_zero]
              rfl
            refine RH.goD (v := ?_) (f' := ?_) rfl ?_ ?_ ?_
            rotate_left 2
            · intro U K d wx hI hmay hK
              go_simp
              exact hK _ (J9.keep (by decide) hI)
            · intro U
              simp only [Act.put, List.setIfInBounds_toArray, List.set_cons_succ, List.set_cons_zero]
              rfl
            refine RH.goD (v := ?_) (f' := ?_) rfl ?_ ?_ ?_
            rotate_left 2
            · intro U K d wx hI hmay hK
              have h2 := hmay.1
              have x0 := (hI.bx (hI.n7 (.inr (.inl h2)))).1
              go_simp
              exact hK _ (J9.keep (by decide) hI)
            · intro U
              simp only [Act.put, List.setIfInBounds_toArray, List.set_cons_succ, List.set_cons_zero]
              rfl
            refine RH.goN (f' := ?_) rfl ?_ ?_ ?_
            rotate_left 1
            · intro U K d wx hI hmay hK
              have h3 := hmay.1
              have hd := hmay.2 _ rfl
              simp [Region.binds] at hd
              go_simp
              exact hK _ _ (hI.step3 h3 (by simp [hd]) HW.out)
            · intro U
              simp only [Act.put, List.setIfInBounds_toArray, List.set_cons_succ, List.set_cons_zero]
              rfl
            refine RH.goN (f' := ?_) rfl ?_ ?_ ?_
            rotate_left 1
            · intro U K d wx hI hmay hK
              have h4 := hmay.1
              have hd := hmay.2 _ rfl
              simp [Region.binds] at hd
              obtain ⟨v', w', ha4, hj⟩ := hI.step4 h4 (by simp [hd]) HW.out HV.out HH.out.1 (by omega) 22
              refine ap_up4 rfl rfl rfl ha4 ?_
              exact hK _ _ hj
            · intro U
              simp only [Act.put, List.setIfInBounds_toArray, List.set_cons_succ, List.set_cons_zero]
              rfl
            refine RH.goD (v := ?_) (f' := ?_) rfl ?_ ?_ ?_
            rotate_left 2
            · intro U K d wx hI hmay hK
              go_simp
              exact hK _ (J9.keep (by decide) hI)
            · intro U
              simp only [Act.put, List.setIfInBounds_toArray, List.set_cons_succ, List.set_cons_zero]
              rfl
            refine RH.goD (v := ?_) (f' := ?_) rfl ?_ ?_ ?_
            rotate_left 2
            · intro U K d wx hI hmay hK
              have h6 := hmay.1
              have x1 := (hI.bx (hI.n7 (.inl h6))).2.1
              go_simp
              exact hK _ (J9.keep (by decide) hI)
            · intro U
              simp only [Act.put, List.setIfInBounds_toArray, List.set_cons_succ, List.set_cons_zero]
              rfl
            refine RH.goN (f' := ?_) rfl ?_ ?_ ?_
            rotate_left 1
            · intro U K d wx hI hmay hK
              have h7 := hmay.1
              have hd := hmay.2 _ rfl
              simp [Region.binds] at hd
              obtain ⟨v', w', ha7, hj⟩ := hI.step7 h7 (by simp [hd]) (by simp [hd]) HW.out hlen 22
              refine ap_up4 rfl rfl rfl ha7 ?_
              exact hK _ _ hj
            · intro U
              simp only [Act.put, List.setIfInBounds_toArray, List.set_cons_succ, List.set_cons_zero]
              rfl
            refine RH.goT ?_
            refine RH.go_end ?_
            intro dd U w9 h9 hall
            simp +decide only [RH.tl, if_true, if_false]
            obtain ⟨r7⟩ : Nonempty (Rb w.heap.size (C ++ [y] ++ b) (U 7) w9) := ⟨h9.u7 (hall 7 (by decide))⟩
            have R9 : Hid (Rb w.heap.size (C ++ [y] ++ b) (U 7) w9) := r7
            have M9 : Hid (Om bm w9) := h9.om
            have B9 : Hid (Below w.heap.size w w9) := h9.bel
            clear h9 hall r7 R2 M2 B2 S2 D0
            generalize U 3 = V3
            generalize U 4 = V4
            generalize U 7 = V7 at *
            have hw := stwI i n hlt (by have := hz.out.1; omega)
            have hm2 := stmW i n hlt (by have := hz.out.1; omega)
            go_wp2_with fail
            go_roundw
            case rel => exact ⟨i + 1, C ++ [y] ++ b, hlt, by rw [hw.out]; rfl, HA2.out, by have := hP; have := HMB.out; simp; omega, R9.out, M9.out, B9.out⟩
            case measure => exact hm2.out
        · have hs1 : decide (m < P) = false := decide_eq_false hs
          rw [hs1] at KS
          have HA2 : Hid (asm ls = (asm (ls.drop (i + 1))).map ((C ++ [UInt8.ofNat x] ++ b) ++ ·)) := by
            show _ = _
            rw [HA.out, hD, if_neg (fun h => hs h.1), Option.map_map]
            congr 1
            funext c
            simp
          clear hD hne HA hs hs1
          go_wp2_with fail
          generalize w1.alloc (.cells #[.int .u8 (x : Int), .slice bo m bc] 43) = WA at *
          refine (KS.out WA).mono ?_
          rintro e w2 ⟨rfl, b2⟩
          have b02 := (bA.trans (b2.mono bA.size))
          have B2 : Hid (Below w.heap.size w w2) := B1.out.trans (b02.mono B1.out.size)
          have R2 : Hid (Rb w.heap.size C u4 w2) := Rb_below R1.out b02
          have M2 : Hid (Om bm w2) := Om_below M1.out b02
          have S2 : Hid (Sn wr.heap.size b bo bc w2) := Sn_below SN.out b02
          have D0 : Hid (w2.cell? ⟨w1.heap.size, 0, none⟩ = some (.int .u8 (x : Int)) ∧ w2.cell? ⟨w1.heap.size, 1, none⟩ = some (.slice bo m bc)) := ⟨(b2.cell (p := ⟨w1.heap.size, 0, none⟩) zA).trans cA0, (b2.cell (p := ⟨w1.heap.size, 1, none⟩) zA).trans cA1⟩
          have HH : Hid (wr.heap.size ≤ w1.heap.size ∧ w1.heap.size < w2.heap.size) := ⟨Z1.out, Nat.lt_of_lt_of_le zA b2.size⟩
          generalize w1.heap.size = h at D0 HH ⊢
          clear bA b2 b02 B1 KS R1 M1 cA0 cA1 zA SN
          obtain ⟨y, hy⟩ : ∃ y : UInt8, Hid (y = UInt8.ofNat x) := ⟨_, rfl⟩
          have hyx : (y.toNat : Int) = (x : Int) := by rw [hy.out]; simp; omega
          rw [← hy.out] at HA2
          rw [← hyx] at D0 ⊢
          clear hyx
          have hlen : C.length + 1 + m ≤ 4194304 := by omega
          rw [HMB.out] at D0 hlen ⊢
          go_upto_region 9 with fail
          refine RH.wp_region_genI (J9 w.heap.size wr.heap.size bm h w C y u4 b bo bc) [0, 0, 0, 1, 1, 0, 0, 1, 2] (by kernel_rfl) (by kernel_rfl) ((J9.start B2.out.drew ⟨Nat.le_trans HH.out.1 (Nat.le_of_lt HH.out.2), HH.out.2⟩ M2.out R2.out D0.out.1 D0.out.2 S2.out)) ?_
          dsimp only [List.toList_toArray]
          refine RH.goD (v := ?_) (f' := ?_) rfl ?_ ?_ ?_
          rotate_left 2
          · intro U K d wx hI hmay hK
            go_simp
            exact hK _ (J9.keep (by decide) hI)
          · intro U
            simp only [Act.put, List.setIfInBounds_toArray, List.set_cons_succ, List.set_cons_zero]
            rfl
          refine RH.goD (v := ?_) (f' := ?_) rfl ?_ ?_ ?_
          rotate_left 2
          · intro U K d wx hI hmay hK
            go_simp
            exact hK _ (J9.keep (by decide) hI)
          · intro U
            simp only [Act.put, List.setIfInBounds_toArray, List.set_cons_succ, List.set_cons_zero]
            rfl
          refine RH.goD (v := ?_) (f' := ?_) rfl ?_ ?_ ?_
          rotate_left 2
          · intro U K d wx hI hmay hK
            have h2 := hmay.1
            have x0 := (hI.bx (hI.n7 (.inr (.inl h2)))).1
            go_simp
            exact hK _ (J9.keep (by decide) hI)
          · intro U
            simp only [Act.put, List.setIfInBounds_toArray, List.set_cons_succ, List.set_cons_zero]
            rfl
          refine RH.goN (f' := ?_) rfl ?_ ?_ ?_
          rotate_left 1
          · intro U K d wx hI hmay hK
            have h3 := hmay.1
            have hd := hmay.2 _ rfl
            simp [Region.binds] at hd
            go_simp
            exact hK _ _ (hI.step3 h3 (by simp [hd]) HW.out)
          · intro U
            simp only [Act.put, List.setIfInBounds_toArray, List.set_cons_succ, List.set_cons_zero]
            rfl
          refine RH.goN (f' := ?_) rfl ?_ ?_ ?_
          rotate_left 1
          · intro U K d wx hI hmay hK
            have h4 := hmay.1
            have hd := hmay.2 _ rfl
            simp [Region.binds] at hd
            obtain ⟨v', w', ha4, hj⟩ := hI.step4 h4 (by simp [hd]) HW.out HV.out HH.out.1 (by omega) 22
            refine ap_up4 rfl rfl rfl ha4 ?_
            exact hK _ _ hj
          · intro U
            simp only [Act.put, List.setIfInBounds_toArray, List.set_cons_succ, List.set_cons_zero]
            rfl
          refine RH.goD (v := ?_) (f' := ?_) rfl ?_ ?_ ?_
          rotate_left 2
          · intro U K d wx hI hmay hK
            go_simp
            exact hK _ (J9.keep (by decide) hI)
          · intro U
            simp only [Act.put, List.setIfInBounds_toArray, List.set_cons_succ, List.set_cons_zero]
            rfl
          refine RH.goD (v := ?_) (f' := ?_) rfl ?_ ?_ ?_
          rotate_left 2
          · intro U K d wx hI hmay hK
            have h6 := hmay.1
            have x1 := (hI.bx (hI.n7 (.inl h6))).2.1
            go_simp
            exact hK _ (J9.keep (by decide) hI)
          · intro U
            simp only [Act.put, List.setIfInBounds_toArray, List.set_cons_succ, List.set_cons_zero]
            rfl
          refine RH.goN (f' := ?_) rfl ?_ ?_ ?_
          rotate_left 1
          · intro U K d wx hI hmay hK
            have h7 := hmay.1
            have hd := hmay.2 _ rfl
            simp [Region.binds] at hd
            obtain ⟨v', w', ha7, hj⟩ := hI.step7 h7 (by simp [hd]) (by simp [hd]) HW.out hlen 22
            refine ap_up4 rfl rfl rfl ha7 ?_
            exact hK _ _ hj
          · intro U
            simp only [Act.put, List.setIfInBounds_toArray, List.set_cons_succ, List.set_cons_zero]
            rfl
          refine RH.goT ?_
          refine RH.go_end ?_
          intro dd U w9 h9 hall
          simp +decide only [RH.tl, if_true, if_false]
          obtain ⟨r7⟩ : Nonempty (Rb w.heap.size (C ++ [y] ++ b) (U 7) w9) := ⟨h9.u7 (hall 7 (by decide))⟩
          have R9 : Hid (Rb w.heap.size (C ++ [y] ++ b) (U 7) w9) := r7
          have M9 : Hid (Om bm w9) := h9.om
          have B9 : Hid (Below w.heap.size w w9) := h9.bel
          clear h9 hall r7 R2 M2 B2 S2 D0
          generalize U 3 = V3
          generalize U 4 = V4
          generalize U 7 = V7 at *
          have hw := stwI i n hlt (by have := hz.out.1; omega)
          have hm2 := stmW i n hlt (by have := hz.out.1; omega)
          go_wp2_with fail
          go_roundw
          case rel => exact ⟨i + 1, C ++ [y] ++ b, hlt, by rw [hw.out]; rfl, HA2.out, by have := hP; have := HMB.out; simp; omega, R9.out, M9.out, B9.out⟩
          case measure => exact hm2.out
    · have ek : i = n := by omega
      subst ek
      have e1 : Hid (R = some C) := by
        show _ = _
        rw [hR.out, ha, List.drop_eq_nil_of_le (by rw [← hn.out]; exact Nat.le_refl _)]
        simp [asm]
      have HR : Hid (Rb w.heap.size C u4 wr) := hr
      have HB : Hid (Below w.heap.size w wr) := hb
      have d0 : ¬ (i : Int) < (i : Int) := by omega
      clear hr hb ha hp hm
      go_wp2_with fail
      go_ret2
      rw [e1.out]
      exact ⟨_, _, rfl, fun C' h => (by cases h; exact ⟨rfl, HR.out⟩), fun h => (by cases h), HB.out⟩
end Cd
end Go.Proofs.YtmlddefoehgofabDoor
/- slices.Equal of numbers; lampbearerlaw.CodePlaces. -/
namespace Go.Proofs.YtmlddefoehgofabDoor
namespace Cd
open Go.RowKit
theorem Ri_form {B : Nat} {l : List Nat} {v : Value} {w : World} (h : Ri B l v w) : ∃ ao cap, v = .slice ao l.length cap := by
  rcases h.2 with ⟨h3, h4⟩ | ⟨g, cap, cur, h3, h5⟩
  · exact ⟨none, 0, by rw [h4]; exact h3⟩
  · exact ⟨_, _, h3⟩
theorem Ri_at {B : Nat} {l : List Nat} {ao : Option Addr} {n cap : Nat} {w : World} (h : Ri B l (.slice ao n cap) w) (h0 : 0 < l.length) : ∃ g, ao = some ⟨g, 0, none⟩ ∧ g < w.heap.size ∧ ∀ j, j < l.length → w.cell? ⟨g, j, none⟩ = some (.int .i64 (l.getD j 0 : Int)) := by
  rcases h.2 with ⟨h3, h4⟩ | ⟨g, cap', cur, h3, h5⟩
  · omega
  · have h6 := h
    rw [h3] at h6
    injection h3 with e1 e2 e3
    refine ⟨g, e1, Pk.lt_of_heap h5.2.1, fun j hj => ?_⟩
    rw [h6.cellAt j (by omega)]
    simp [ics, hj]
set_option maxHeartbeats 1000000 in
set_option maxRecDepth 100000 in
theorem equal_big (l : List Nat) (n : Nat) (hn : Hid (n = l.length)) (hz : Hid (n ≤ 2097152)) (B C : Nat) (ao bo : Option Addr) (ca cb : Nat) (w : World) (ha : Hid (Ri B l (.slice ao n ca) w)) (hb : Hid (Ri C l (.slice bo n cb) w)) : Calls Tryd.prog 10 #[.slice ao n ca, .slice bo n cb] w fun e w' => e = .returned (.bool true) ∧ Below w.heap.size w w' := by
  go_enter Tryd.func10, Tryd.ntmps10
  go_wp2_with fail
  go_loopw [13] (fun p wr => ∃ i : Nat, i ≤ n ∧ p = .int .i64 (i : Int) ∧ Below w.heap.size w wr) (fun p _ => ((n : Int) - intOf p).toNat)
  case atStart => exact ⟨0, Nat.zero_le _, rfl, Below.refl _ _⟩
  case round =>
    obtain ⟨i, hi, rfl, hB⟩ := hrel
    by_cases hlt : i < n
    · have d0 : (0 : Int) ≤ (i : Int) := by omega
      have d1 : (i : Int) < (n : Int) := by omega
      have hil : i < l.length := by rw [← hn.out]; exact hlt
      obtain ⟨g, rfl, hg, hc⟩ := Ri_at ha.out (by omega)
      obtain ⟨h, rfl, hh, hd⟩ := Ri_at hb.out (by omega)
      have c1 := (hB.cell (p := ⟨g, i, none⟩) hg).trans (hc i hil)
      have c2 := (hB.cell (p := ⟨h, i, none⟩) hh).trans (hd i hil)
      have HB : Hid _ := hB
      have hw := stwI i n hlt (by have := hz.out; omega)
      clear hB hc hd hil
      generalize (l.getD i 0 : Int) = X at *
      have G1 : Hid (g < wr.heap.size) := Nat.lt_of_lt_of_le hg HB.out.size
      have H1 : Hid (h < wr.heap.size) := Nat.lt_of_lt_of_le hh HB.out.size
      have C1 : Hid _ := c1
      have C2 : Hid _ := c2
      clear c1 c2
      go_wp2_with fail
      refine RS.wp_region_one (fun wx => Below wr.heap.size wr wx) (by kernel_rfl) (by kernel_rfl) ((Below.refl _ _).drew) ?_
      dsimp only [List.toList_toArray]
      refine RS.go1 (v := ?_) (a' := ?_) rfl ?_ ?_ ?_
      rotate_left 2
      · intro K wx hS hK
        go_simp
        exact hK _ hS
      · simp only [Act.put, List.setIfInBounds_toArray, List.set_cons_succ, List.set_cons_zero]
        rfl
      refine RS.go1 (v := ?_) (a' := ?_) rfl ?_ ?_ ?_
      rotate_left 2
      · intro K wx hS hK
        go_simp
        exact hK _ hS
      · simp only [Act.put, List.setIfInBounds_toArray, List.set_cons_succ, List.set_cons_zero]
        rfl
      refine RS.go1 (v := ?_) (a' := ?_) rfl ?_ ?_ ?_
      rotate_left 2
      · intro K wx hS hK
        go_simp
        exact hK _ hS
      · simp only [Act.put, List.setIfInBounds_toArray, List.set_cons_succ, List.set_cons_zero]
        rfl
      refine RS.go1 (v := ?_) (a' := ?_) rfl ?_ ?_ ?_
      rotate_left 2
      · intro K wx hS hK
        have x1 := (hS.cell (p := ⟨g, i, none⟩) G1.out).trans C1.out
        go_simp
        exact hK _ hS
      · simp only [Act.put, List.setIfInBounds_toArray, List.set_cons_succ, List.set_cons_zero]
        rfl
      refine RS.go1 (v := ?_) (a' := ?_) rfl ?_ ?_ ?_
      rotate_left 2
      · intro K wx hS hK
        go_simp
        exact hK _ hS
      · simp only [Act.put, List.setIfInBounds_toArray, List.set_cons_succ, List.set_cons_zero]
        rfl
      refine RS.go1 (v := ?_) (a' := ?_) rfl ?_ ?_ ?_
      rotate_left 2
      · intro K wx hS hK
        go_simp
        exact hK _ hS
      · simp only [Act.put, List.setIfInBounds_toArray, List.set_cons_succ, List.set_cons_zero]
        rfl
      refine RS.go1 (v := ?_) (a' := ?_) rfl ?_ ?_ ?_
      rotate_left 2
      · intro K wx hS hK
        go_simp
        exact hK _ hS
      · simp only [Act.put, List.setIfInBounds_toArray, List.set_cons_succ, List.set_cons_zero]
        rfl
      refine RS.go1 (v := ?_) (a' := ?_) rfl ?_ ?_ ?_
      rotate_left 2
      · intro K wx hS hK
        have x2 := (hS.cell (p := ⟨h, i, none⟩) H1.out).trans C2.out
        go_simp
        exact hK _ hS
      · simp only [Act.put, List.setIfInBounds_toArray, List.set_cons_succ, List.set_cons_zero]
        rfl
      refine RS.go1 (v := ?_) (a' := ?_) rfl ?_ ?_ ?_
      rotate_left 2
      · intro K wx hS hK
        go_simp
        exact hK _ hS
      · simp only [Act.put, List.setIfInBounds_toArray, List.set_cons_succ, List.set_cons_zero]
        rfl
      refine RS.go_end ?_
      intro w9 h9
      have H9 : Hid (Below w.heap.size w w9) := HB.out.trans (h9.mono HB.out.size)
      clear h9
      go_wp2_with fail
      go_roundw
      case rel => exact ⟨i + 1, hlt, by rw [hw.out]; rfl, H9.out⟩
      case measure => rw [hw.out]; exact stmI i n (i + 1) hlt (by omega)
    · have ek : i = n := by omega
      subst ek
      have HB : Hid _ := hB
      have d0 : ¬ (i : Int) < (i : Int) := by omega
      clear hB
      go_wp2_with fail
      go_ret
      exact ⟨rfl, HB.out⟩
theorem equal_same (l : List Nat) (n : Nat) (hn : Hid (n = l.length)) (hz : Hid (n ≤ 1048576)) (B C : Nat) (ao bo : Option Addr) (ca cb : Nat) (w : World) (ha : Hid (Ri B l (.slice ao n ca) w)) (hb : Hid (Ri C l (.slice bo n cb) w)) : Calls Tryd.prog 10 #[.slice ao n ca, .slice bo n cb] w fun e w' => e = .returned (.bool true) ∧ Below w.heap.size w w' :=
  equal_big l n hn (by show _ ≤ _; have := hz.out; omega) B C ao bo ca cb w ha hb
end Cd
end Go.Proofs.YtmlddefoehgofabDoor
/- alive12. -/
namespace Go.Proofs.YtmlddefoehgofabDoor
namespace Cd
open Go.RowKit Go.Maps
/-- The lines that alive12 reads, and what they come to. -/
def l12 : List (List UInt8) := [[112, 117, 115, 104, 50, 32, 48, 120, 53, 98, 48, 49], [108, 97, 110, 100], [48, 120, 102, 101], [112, 117, 115, 104, 52, 32, 48, 120, 48, 48]]
def c12 : List UInt8 := [97, 91, 1, 91, 254, 99, 0]
theorem asm12 : asm l12 = some c12 := by decide +kernel
theorem pl12 : pl l12 = 7 := by decide +kernel
theorem land12 : (Cd.st c12 7).1 = [3] := by decide +kernel
theorem nm_add : nm 1 = [97, 100, 100] := by decide +kernel
theorem lit_vg (ls : List (List UInt8)) (w : World) : Vg ls (some ⟨w.heap.size, 0, none⟩) (w.alloc (.cells (scs ls).toArray 9)) := fun _ => ⟨w.heap.size, 0, rfl, by simp, fun j hj => by
  have hN := heap_alloc_new w (.cells (scs ls).toArray 9 (0, 0))
  simp only [World.cell?, hN, Nat.zero_add]
  simp [scs, hj]⟩
theorem lit_ri (l : List Nat) (w : World) (B : Nat) (h : B ≤ w.heap.size) (hl : l.length ≤ 1048576) : Ri B l (.slice (some ⟨w.heap.size, 0, none⟩) l.length l.length) (w.alloc (.cells (ics l).toArray 3)) := by
  have k := World.ownsRow_lit (size := 1) (e := 3) w (ics l).toArray l.length h (by unfold maxLen; omega) (by simp [ics_len])
  unfold Ri
  simpa using k
set_option maxHeartbeats 2000000 in
set_option maxRecDepth 100000 in
theorem alive12_any (w : World) : Calls Tryd.prog 5 #[] w fun e w' => e = .returned (.bool true) ∧ Below w.heap.size w w' := by
  have b0 : Below w.heap.size w (w.alloc (.cells (scs l12).toArray 9)) := (Below.refl _ _).alloc (Nat.le_refl _) _
  have KA : Hid (Calls Tryd.prog 14 #[.slice (some ⟨w.heap.size, 0, none⟩) 4 4] (w.alloc (.cells (scs l12).toArray 9)) fun e w' => ∃ ao cap, e = .returned (.tuple #[.slice ao 7 cap, .int .i64 0]) ∧ 7 ≤ cap ∧ Sp.Vw c12 ao w' ∧ Below w.heap.size w w') := by
    refine (asm_any l12 4 rfl ⟨by decide, by rw [pl12]; decide⟩ (by show ∀ l, l ∈ l12 → l.length ≤ 2097154; decide) (some ⟨w.heap.size, 0, none⟩) 4 _ (lit_vg l12 w)).mono fun e w' he => ?_
    obtain ⟨v, k, rfl, h1, -, h3⟩ := he
    obtain ⟨rfl, hr⟩ := h1 c12 asm12
    obtain ⟨ao, cap, rfl, hc, hv⟩ := Rb_sl hr
    exact ⟨ao, cap, rfl, hc, hv, b0.trans (h3.mono b0.size)⟩
  have KN : Hid (∀ W : World, Calls Tryd.prog 13 #[.int .u8 1] W fun e w' => e = .returned (.string ⟨#[97, 100, 100]⟩) ∧ Below W.heap.size W w') := fun W => by
    have := name_any 1 (by decide) W
    rw [nm_add] at this
    exact this
  clear b0
  go_enter Tryd.func5, Tryd.ntmps5
  go_wp2_with fail
  refine KA.out.mono ?_
  rintro e w1 ⟨ao, cap, rfl, hcap, hv, b1⟩
  have B1 : Hid _ := b1
  have V1 : Hid (Sp.Vw c12 ao w1) := hv
  have hcv : (convert 22 9 (.slice ao 7 cap)).run Tryd.prog w1 = .ok (.string ⟨#[97, 91, 1, 91, 254, 99, 0]⟩) w1 := Sl_conv (b := c12) ⟨ao, cap, rfl, hcap, hv⟩
  have KL : Hid (∀ W : World, Below w1.heap.size w1 W → Calls Tryd.prog 8 #[.slice ao 7 cap] W fun e w' => ∃ a c, e = .returned (.slice a 1 c) ∧ Ri W.heap.size [3] (.slice a 1 c) w' ∧ Below W.heap.size W w') := fun W hW => (landings_any c12 7 rfl (by show _ ≤ _; decide) ao cap W (Sp.Vw_below hv hW)).mono fun e w' he => by
    obtain ⟨v, rfl, hr, hb⟩ := he
    rw [land12] at hr
    obtain ⟨a, c, e⟩ := Ri_form hr
    subst e
    exact ⟨a, c, rfl, hr, hb⟩
  clear b1 hv hcap KA
  go_wp2_with fail
  refine (KL.out w1 (Below.refl _ _)).mono ?_
  rintro e w2 ⟨a, c, rfl, r2, b2⟩
  have B2 : Hid (Below w.heap.size w w2) := B1.out.trans (b2.mono B1.out.size)
  have bL : Below w2.heap.size w2 (w2.alloc (.cells #[.int .i64 3] 3)) := (Below.refl _ _).alloc (Nat.le_refl _) _
  have KE : Hid (Calls Tryd.prog 10 #[.slice a 1 c, .slice (some ⟨w2.heap.size, 0, none⟩) 1 1] (w2.alloc (.cells #[.int .i64 3] 3)) fun e w' => e = .returned (.bool true) ∧ Below w2.heap.size w2 w') := (equal_same [3] 1 rfl (by show _ ≤ _; decide) w1.heap.size 0 a (some ⟨w2.heap.size, 0, none⟩) c 1 _ (Ri_below r2 bL) (lit_ri [3] w2 0 (Nat.zero_le _) (by decide))).mono fun e w' he => ⟨he.1, bL.trans (he.2.mono bL.size)⟩
  clear r2 b2 bL KL hcv B1 V1
  go_wp2_with fail
  refine KE.out.mono ?_
  rintro e w3 ⟨rfl, b3⟩
  have B3 : Hid (Below w.heap.size w w3) := B2.out.trans (b3.mono B2.out.size)
  clear b3 B2 KE
  go_wp2_with fail
  refine (KN.out w3).mono ?_
  rintro e w4 ⟨rfl, b4⟩
  have B4 : Hid (Below w.heap.size w w4) := B3.out.trans (b4.mono B3.out.size)
  clear b4 B3 KN
  go_wp2_with fail
  go_ret
  exact ⟨rfl, B4.out⟩
end Cd
end Go.Proofs.YtmlddefoehgofabDoor
/- slices.Equal of strings. -/
namespace Go.Proofs.YtmlddefoehgofabDoor
namespace Cd
open Go.RowKit Go.Maps
theorem drewN_below (w : World) (k : Nat) : Below w.heap.size w (w.drewN k) := by
  induction k with
  | zero => exact Below.refl _ _
  | succ k ih => exact ih.trans ((Below.refl _ _).drew.mono ih.size)
/-- slices.Equal of two slices that read as the same strings. -/
theorem eq_same (ls : List (List UInt8)) (n : Nat) (hn : n = ls.length) (hz : n ≤ 4194304) (a b : Option Addr) (c d : Nat) (w : World) (ha : Vg ls a w) (hb : Vg ls b w) : Calls Tryd.prog 11 #[.slice a n c, .slice b n d] w fun e w' => e = .returned (.bool true) ∧ Below w.heap.size w w' := by
  by_cases h0 : n = 0
  · subst h0
    exact (Tryd.slices_Equal_string_empty a b c 0 d w (by omega)).mono fun e w' he => ⟨by rw [he.1]; rfl, by rw [he.2]; exact Below.refl _ _⟩
  · obtain ⟨g, o, rfl, _, h1⟩ := ha (by omega)
    obtain ⟨g2, o2, rfl, _, h2⟩ := hb (by omega)
    have hx : (ls.map sb).length = n := by rw [List.length_map, hn]
    have hc : ∀ j, j < (ls.map sb).length → (ls.map sb).getD j ByteArray.empty = sb (ls.getD j []) := fun j hj => by
      rw [List.length_map] at hj
      rw [List.getD_eq_getElem?_getD, List.getD_eq_getElem?_getD, List.getElem?_map, List.getElem?_eq_getElem hj]
      rfl
    refine (Tryd.slices_Equal_string g o n c g2 o2 n d (ls.map sb) (ls.map sb) w (by omega) (by omega) (by omega) (by omega) (fun j hj => by rw [h1 j (by rw [List.length_map] at hj; exact hj), ← hc j hj]) (fun j hj => by rw [h2 j (by rw [List.length_map] at hj; exact hj), ← hc j hj])).mono fun e w' he => ?_
    obtain ⟨rfl, q, rfl⟩ := he
    exact ⟨by simp, drewN_below _ _⟩
end Cd
end Go.Proofs.YtmlddefoehgofabDoor
/- lampbearerkeep.CodeJoin. -/
namespace Go.Proofs.YtmlddefoehgofabDoor
namespace Cd
open Go.RowKit Go.Maps
theorem ln_len (x : Nat) (b : List UInt8) (hb : b.length ≤ 32) : (ln x b).length ≤ 80 := by
  have h1 := nm_len x
  have h2 := px_len b
  have h3 := px_len [UInt8.ofNat x]
  unfold ln
  split
  · rw [h3]; simp
  · split
    · simp; omega
    · omega
theorem dis_lens : ∀ (n : Nat) (c : List UInt8), c.length ≤ n → (∀ l, l ∈ dis c → l.length ≤ 80) ∧ (dis c).length ≤ c.length
  | _, [], _ => by rw [dis_nil]; exact ⟨fun l h => (by cases h), Nat.le_refl _⟩
  | 0, x :: r, h => by simp at h
  | n + 1, x :: r, h => by
    obtain ⟨h1, h2⟩ := dis_lens n (r.drop (psh (x.toNat : Int))) (by rw [List.length_drop]; simp at h; omega)
    rw [dis_cons]
    refine ⟨fun l hl => ?_, ?_⟩
    · rcases List.mem_cons.1 hl with rfl | hl
      · exact ln_len _ _ (by rw [List.length_take]; have := psh_le (x.toNat : Int); omega)
      · exact h1 l hl
    · rw [List.length_drop] at h2
      simp only [List.length_cons]
      omega
theorem app_i2 {base : Nat} {l : List Nat} {v : Value} {w : World} (ty : TypeId) (i g : Nat) (h : Ri base l v w) (hbase : base ≤ w.heap.size) (hg : w.cell? ⟨g, 0, none⟩ = some (.int .i64 (i : Int))) (hlen : l.length + 1 ≤ 4194304) :
    ∃ v' w', (Builtin.append_ #[26, 26] ty #[v, .slice (some ⟨g, 0, none⟩) 1 1]).run Tryd.prog w = .ok v' w' ∧ Ri base (l ++ [i]) v' w' ∧ w.grownBy w' v.ownBlock ∧ (v'.ownBlock = v.ownBlock ∨ v'.ownBlock = some w.heap.size) := by
  obtain ⟨i0, hi, hz0, hz1, hz2⟩ := info_parts infoI
  obtain ⟨g', cap', w', hr, ho, hgr, hl, _⟩ := run_append_lies (P := Tryd.prog) w 26 ty base 3 i0 (.int .i64 0) 1 8 Tryd.underlying26 hi hz0 hz1 hz2 rfl (by decide) v l.length (ics l) h ⟨g, 0, none⟩ 1 1 [.int .i64 (i : Int)] rfl
    (fun j u hj => by
      have hj' : j < 1 := (List.getElem?_eq_some_iff.1 hj).1
      obtain rfl : j = 0 := by omega
      simp at hj
      subst hj
      rw [Sp.add_lit]
      exact hg) (fun u hu => by simp at hu; subst hu; rfl) (by decide) (by unfold maxLen; omega) (by omega) hbase w.heap.size rfl
  refine ⟨_, w', hr, ?_, hgr, ?_⟩
  · unfold Ri
    rw [List.length_append]
    show w'.ownsRow base _ 1 _ (l.length + 1) _
    have e : ics (l ++ [i]) = ics l ++ [.int .i64 (i : Int)] := by simp [ics]
    rw [e]
    exact ho
  · rcases hl with hl | hl
    · exact .inl hl.symm
    · exact .inr (by rw [hl]; rfl)
theorem vl_bytes {l : List UInt8} {v : Value} {w : World} (h : Sl l v w) : Sp.Vl (Pk.bcs l) v w := by
  obtain ⟨ao, cap, rfl, _, hv⟩ := h
  refine ⟨ao, cap, by rw [Pk.bcs_len], fun h0 => ?_⟩
  rw [Pk.bcs_len] at h0
  obtain ⟨g, off, e, hg, hc⟩ := hv h0
  refine ⟨g, off, e, hg, fun j hj => ?_⟩
  rw [Pk.bcs_len] at hj
  rw [hc j hj]
  simp [Pk.bcs, Sp.bz, hj]
theorem vl_strs {l : List (List UInt8)} {ao : Option Addr} {n cap : Nat} {w : World} (hn : n = l.length) (h : Vg l ao w) : Sp.Vl (scs l) (.slice ao n cap) w := by
  refine ⟨ao, cap, by rw [scs_len, hn], fun h0 => ?_⟩
  rw [scs_len] at h0
  obtain ⟨g, off, e, hg, hc⟩ := h h0
  refine ⟨g, off, e, hg, fun j hj => ?_⟩
  rw [scs_len] at hj
  rw [hc j hj]
  simp [scs, hj]
theorem vls_two {xs ys : List Value} {u v : Value} {w : World} (T : TypeId) (hx : Sp.Vl xs u w) (hy : Sp.Vl ys v w) : Sp.Vls [xs, ys] (.slice (some ⟨w.heap.size, 0, none⟩) 2 2) (w.alloc (.cells #[u, v] T)) := by
  have bl : Below w.heap.size w (w.alloc (.cells #[u, v] T)) := (Below.refl _ _).alloc (Nat.le_refl _) _
  refine ⟨_, 2, rfl, fun _ => ⟨w.heap.size, 0, rfl, by simp, fun i hi => ?_⟩⟩
  have hi2 : i < 2 := hi
  match i, hi2 with
  | 0, _ => exact ⟨u, by simp, Sp.Vl_below hx bl⟩
  | 1, _ => exact ⟨v, by simp, Sp.Vl_below hy bl⟩
theorem oneB (l : List UInt8) : ∀ u ∈ Pk.bcs l, u.oneCell' = true := fun u hu => by
  obtain ⟨c, _, rfl⟩ := List.mem_map.1 hu
  rfl
theorem oneS (l : List (List UInt8)) : ∀ u ∈ scs l, u.oneCell' = true := fun u hu => by
  obtain ⟨c, _, rfl⟩ := List.mem_map.1 hu
  rfl
/-- What slices.Clone of a, with room behind it, comes to. -/
theorem clone_b1 (a : List UInt8) (n : Nat) (hn : n = a.length) (hz : n ≤ 1048576) (ao : Option Addr) (cap : Nat) (w : World) (h : Sl a (.slice ao n cap) w) : Calls Tryd.prog 6 #[.slice ao n cap] w fun e w' => ∃ v, e = .returned v ∧ w'.ownsRow w.heap.size 5 1 v a.length (Pk.bcs a) ∧ Below w.heap.size w w' := by
  have k := Cs.clone_b (Pk.bcs a) (.slice ao n cap) w (by rw [Pk.bcs_len]; omega) (oneB a) (vl_bytes h)
  rw [Pk.bcs_len] at k
  exact k
theorem cat_b2 (A b : List UInt8) (u v : Value) (w : World) (T : TypeId) (hz : A.length + b.length ≤ 4194304) (ha : Sl A u w) (hb : Sl b v w) : Calls Tryd.prog 7 #[.slice (some ⟨w.heap.size, 0, none⟩) 2 2] (w.alloc (.cells #[u, v] T)) fun e w' => ∃ z, e = .returned z ∧ Sl (A ++ b) z w' ∧ Below w.heap.size w w' := by
  have bl : Below w.heap.size w (w.alloc (.cells #[u, v] T)) := (Below.refl _ _).alloc (Nat.le_refl _) _
  have e : [Pk.bcs A, Pk.bcs b].flatten = Pk.bcs (A ++ b) := by simp [Pk.bcs]
  refine (Cs.concat_b4 [Pk.bcs A, Pk.bcs b] _ _ (by show _ ≤ _; rw [e, Pk.bcs_len, List.length_append]; omega) (by show 2 ≤ _; omega) (by
    show ∀ xs ∈ _, _
    intro xs hxs
    simp only [List.mem_cons, List.not_mem_nil, or_false] at hxs
    rcases hxs with rfl | rfl
    · exact oneB A
    · exact oneB b) (vls_two T (vl_bytes ha) (vl_bytes hb))).mono fun e' w' he => ?_
  obtain ⟨z, rfl, ho, hb2⟩ := he
  rw [e, Pk.bcs_len] at ho
  exact ⟨z, rfl, Rb_sl ho, bl.trans (hb2.mono bl.size)⟩
theorem cat_s2 (X Y : List (List UInt8)) (a1 a2 : Option Addr) (n1 n2 c1 c2 : Nat) (h1 : n1 = X.length) (h2 : n2 = Y.length) (w : World) (T : TypeId) (hz : X.length + Y.length ≤ 4194304) (hx : Vg X a1 w) (hy : Vg Y a2 w) : Calls Tryd.prog 12 #[.slice (some ⟨w.heap.size, 0, none⟩) 2 2] (w.alloc (.cells #[.slice a1 n1 c1, .slice a2 n2 c2] T)) fun e w' => ∃ b d, e = .returned (.slice b (X ++ Y).length d) ∧ Vg (X ++ Y) b w' ∧ Below w.heap.size w w' := by
  have bl : Below w.heap.size w (w.alloc (.cells #[.slice a1 n1 c1, .slice a2 n2 c2] T)) := (Below.refl _ _).alloc (Nat.le_refl _) _
  have e : [scs X, scs Y].flatten = scs (X ++ Y) := by simp [scs]
  refine (Cs.concat_s [scs X, scs Y] _ _ (by show _ ≤ _; rw [e, scs_len, List.length_append]; omega) (by show 2 ≤ _; omega) (by
    show ∀ xs ∈ _, _
    intro xs hxs
    simp only [List.mem_cons, List.not_mem_nil, or_false] at hxs
    rcases hxs with rfl | rfl
    · exact oneS X
    · exact oneS Y) (vls_two T (vl_strs h1 hx) (vl_strs h2 hy))).mono fun e' w' he => ?_
  obtain ⟨z, rfl, ho, hb2⟩ := he
  rw [e, scs_len] at ho
  obtain ⟨b, d, rfl, _, hg⟩ := Rg_vg ho
  exact ⟨b, d, rfl, hg, bl.trans (hb2.mono bl.size)⟩
/-- What holds while places are moved up. -/
structure Jn (W5 WL : World) (row : Option Nat) (l : List Nat) (v : Value) (wr : World) : Prop where
  own : Ri W5.heap.size l v wr
  b5 : Below W5.heap.size W5 wr
  gr : WL.grownBy wr row
  at' : v.ownBlock = row ∨ ∃ g, v.ownBlock = some g ∧ WL.heap.size ≤ g
theorem Jn_step {W5 WL : World} {row : Option Nat} {l : List Nat} {v : Value} {wr : World} (h : Jn W5 WL row l v wr) (i : Nat) (hl : l.length + 1 ≤ 4194304) (ty : TypeId) :
    ∃ v' w', (Builtin.append_ #[26, 26] ty #[v, .slice (some ⟨wr.heap.size, 0, none⟩) 1 1]).run Tryd.prog (wr.alloc (.cells #[.int .i64 (i : Int)] 3)) = .ok v' w' ∧ Jn W5 WL row (l ++ [i]) v' w' := by
  have bA : Below wr.heap.size wr (wr.alloc (.cells #[.int .i64 (i : Int)] 3)) := (Below.refl _ _).alloc (Nat.le_refl _) _
  have h5r : W5.heap.size ≤ wr.heap.size := h.b5.size
  obtain ⟨v', w', hr, ho, hg, hat⟩ := app_i2 ty i wr.heap.size (Ri_below h.own bA) (Nat.le_trans h5r bA.size) (by simp) hl
  have hlo := Sp.own_lo (Ri_below h.own bA)
  refine ⟨v', w', hr, ho, (h.b5.trans (bA.mono h5r)).grown hg (Nat.le_trans h5r bA.size) (fun k hk => (hlo k hk).1), ⟨?_, ?_, ?_, ?_, fun j hj hne => ?_⟩, ?_⟩
  · exact hg.os.trans (bA.os.trans h.gr.os)
  · exact hg.tape.trans (bA.tape.trans h.gr.tape)
  · exact hg.output.trans (bA.output.trans h.gr.output)
  · exact Nat.le_trans h.gr.size (Nat.le_trans bA.size hg.size)
  · have hj2 : j < wr.heap.size := Nat.lt_of_lt_of_le hj h.gr.size
    have hv : some j ≠ v.ownBlock := by
      rcases h.at' with e | ⟨g, e, hgl⟩
      · rw [e]; exact hne
      · rw [e]; intro q; injection q with q; omega
    rw [hg.block j (Nat.lt_of_lt_of_le hj2 bA.size) hv, bA.block j hj2, h.gr.block j hj hne]
  · rcases hat with e | e
    · rw [e]; exact h.at'
    · right
      exact ⟨_, e, Nat.le_trans h.gr.size bA.size⟩
theorem st_all2 (c : List UInt8) : ∀ i, ∀ p, p ∈ (Cd.st c i).1 → p < i
  | 0, p, h => by cases h
  | i + 1, p, h => by
    have ih := st_all2 c i
    by_cases h0 : (Cd.st c i).2 = 0
    · rw [st_op h0] at h
      dsimp only at h
      by_cases hb : Sp.bz c i = 91
      · rw [if_pos hb] at h
        rcases List.mem_append.1 h with h | h
        · have := ih p h; omega
        · obtain rfl := List.mem_singleton.1 h
          exact Nat.lt_succ_self _
      · rw [if_neg hb] at h
        have := ih p h; omega
    · rw [st_push h0] at h
      have := ih p h; omega
theorem Ri_keep {B : Nat} {l : List Nat} {v : Value} {w w' : World} {row : Option Nat} (h : Ri B l v w) (hg : w.grownBy w' row) (hr : ∀ g, row = some g → g < B) : Ri B l v w' := h.kept hg ((Classical.em (v.ownBlock = none)).elim .inl fun hn => .inr fun e => by
  cases hv : v.ownBlock with
  | none => exact hn hv
  | some g =>
    have h1 := (Sp.own_lo h g hv).1
    rw [hv] at e
    have := hr g e.symm
    omega)
set_option maxHeartbeats 8000000 in
set_option maxRecDepth 100000 in
theorem law_cjoin (a b : List UInt8) (na nb : Nat) (hna : Hid (na = a.length)) (hnb : Hid (nb = b.length)) (hz : Hid (na + nb ≤ 1048576)) (ao bo : Option Addr) (ca cb : Nat) (hca : Hid (na ≤ ca ∧ nb ≤ cb)) (w : World) (ha : Hid (Sp.Vw a ao w)) (hb : Hid (Sp.Vw b bo w)) : Calls Tryd.prog 3 #[.slice ao na ca, .slice bo nb cb] w fun e w' => e = .returned (.bool true) ∧ Below w.heap.size w w' := by
  have SA : Hid (∀ W : World, Below w.heap.size w W → Sl a (.slice ao na ca) W) := fun W hW => by
    have := hna.out
    subst this
    exact ⟨ao, ca, rfl, hca.out.1, Sp.Vw_below ha.out hW⟩
  have SB : Hid (∀ W : World, Below w.heap.size w W → Sl b (.slice bo nb cb) W) := fun W hW => by
    have := hnb.out
    subst this
    exact ⟨bo, cb, rfl, hca.out.2, Sp.Vw_below hb.out hW⟩
  have KA : Hid (Calls Tryd.prog 5 #[] w fun e w' => e = .returned (.bool true) ∧ Below w.heap.size w w') := alive12_any w
  obtain ⟨A, hA⟩ : ∃ A, Hid (A = pad a) := ⟨_, rfl⟩
  obtain ⟨nA, hnA⟩ : ∃ nA, Hid (nA = A.length) := ⟨_, rfl⟩
  have HN : Hid (nA = na + 32 ∧ A.length = na + 32) := by have h1 := hnA.out; have h2 := hA.out; have h3 := pad_len a; have h4 := hna.out; rw [← h2] at h3; exact ⟨by omega, by omega⟩
  have H0 : Hid ((Cd.st A A.length).2 = 0) := by show _ = _; rw [hA.out]; exact pad_st a
  have KL : Hid (∀ (c : List UInt8) (n : Nat) (o : Option Addr) (k : Nat) (W : World), n = c.length → n ≤ 2097152 → Sl c (.slice o n k) W → Calls Tryd.prog 8 #[.slice o n k] W fun e w' => ∃ v, e = .returned v ∧ Ri W.heap.size (Cd.st c n).1 v w' ∧ Below W.heap.size W w') := fun c n o k W hn hz hs => by
    obtain ⟨o2, k2, e, _, hv⟩ := hs
    injection e with e1 e2 e3
    subst e1 e3
    exact landings_big c n hn hz o k W hv
  have KD : Hid (∀ (c : List UInt8) (n : Nat) (o : Option Addr) (k : Nat) (W : World), n = c.length → n ≤ 2097152 → Sl c (.slice o n k) W → Calls Tryd.prog 9 #[.slice o n k] W fun e w' => ∃ q m d, e = .returned (.slice q m d) ∧ m = (dis c).length ∧ Vg (dis c) q w' ∧ Below W.heap.size W w') := fun c n o k W hn hz hs => by
    obtain ⟨o2, k2, e, hk, hv⟩ := hs
    injection e with e1 e2 e3
    subst e1 e3
    refine (dis_big c n hn hz o k (by show _ ≤ _; omega) W hv).mono fun e w' he => ?_
    obtain ⟨v, rfl, hr, hb⟩ := he
    obtain ⟨q, d, e, _, hg⟩ := Rg_vg hr
    exact ⟨q, _, d, by rw [e], rfl, hg, hb⟩
  go_enter Tryd.func3, Tryd.ntmps3
  go_wp2_with fail
  refine KA.out.mono ?_
  rintro e w1 ⟨rfl, b1⟩
  have B1 : Hid (Below w.heap.size w w1) := b1
  clear b1 KA
  go_wp2_with fail
  refine (clone_b1 a na hna.out (by have := hz.out; omega) ao ca w1 (SA.out w1 B1.out)).mono ?_
  rintro e w2 ⟨v2, rfl, o2, b2⟩
  have B2 : Hid (Below w.heap.size w w2) := B1.out.trans (b2.mono B1.out.size)
  obtain ⟨v3, w3, hap, o3, g3, _⟩ := Cz.zeros_own 22 o2 32 (by decide) (by have := hna.out; have := hz.out; omega) b2.size
  have B3 : Hid (Below w.heap.size w w3) := B2.out.grown g3 B2.out.size (fun k hk => Nat.le_trans B1.out.size (Sp.own_lo o2 k hk).1)
  have S3 : Hid (Sl A v3 w3) := by
    show Sl _ _ _
    rw [hA.out]
    exact Rb_sl (B := w1.heap.size) o3
  clear o2 b2 o3 g3 B1
  obtain ⟨a3, c3, e3, _, _⟩ := id S3.out
  rw [← hnA.out] at e3
  subst e3
  go_wp2_with (at_builtin; refine Sp.wpList_app2 rfl rfl rfl rfl hap ?_)
  clear hap B2
  refine (cat_b2 A b _ _ w3 _ (by have := HN.out; have := hnb.out; have := hz.out; omega) S3.out (SB.out w3 B3.out)).mono ?_
  rintro e w4 ⟨v4, rfl, s4, b4⟩
  obtain ⟨M, hM⟩ : ∃ M, Hid (M = (A ++ b).length) := ⟨_, rfl⟩
  obtain ⟨a4, c4, e4, _, _⟩ := id s4
  rw [← hM.out] at e4
  subst e4
  have B4 : Hid (Below w.heap.size w w4) := B3.out.trans (b4.mono B3.out.size)
  have S4 : Hid (Sl (A ++ b) (.slice a4 M c4) w4) := s4
  have A4 : Hid (Sl A (.slice a3 nA c3) w4) := Sl_below S3.out b4
  have MN : Hid (M = nA + nb ∧ M ≤ 2097152) := ⟨by rw [hM.out, hnA.out, hnb.out, List.length_append], by have h1 := hM.out; have h2 := HN.out; have h3 := hz.out; have h4 := hnb.out; rw [List.length_append] at h1; omega⟩
  clear s4 b4 B3 S3
  go_wp2_with fail
  refine (KL.out A nA a3 c3 w4 hnA.out (by have := HN.out; have := hz.out; have := hnA.out; omega) A4.out).mono ?_
  rintro e w5 ⟨v5, rfl, r5, b5⟩
  have B5 : Hid (Below w.heap.size w w5) := B4.out.trans (b5.mono B4.out.size)
  have HV5 : Hid (∀ g, v5.ownBlock = some g → w4.heap.size ≤ g ∧ g < w5.heap.size) := Sp.own_lo r5
  have R5 : Hid (Ri w4.heap.size (Cd.st A nA).1 v5 w5) := r5
  have BB5 : Hid (Below w4.heap.size w4 w5) := b5
  obtain ⟨a5, c5, e5⟩ := Ri_form r5
  clear r5 b5
  go_wp2_with fail
  refine (KL.out b nb bo cb w5 hnb.out (by have := hz.out; omega) (SB.out w5 B5.out)).mono ?_
  rintro e w6 ⟨v6, rfl, r6, b6⟩
  obtain ⟨a6, c6, e6⟩ := Ri_form r6
  obtain ⟨m, hm⟩ : ∃ m, Hid (m = (Cd.st b nb).1.length) := ⟨_, rfl⟩
  rw [← hm.out] at e6
  subst e6
  obtain ⟨LA, hLA⟩ : ∃ LA, Hid (LA = (Cd.st A nA).1) := ⟨_, rfl⟩
  obtain ⟨LB, hLB⟩ : ∃ LB, Hid (LB = (Cd.st b nb).1) := ⟨_, rfl⟩
  have HLl : Hid (LA.length ≤ nA ∧ LB.length ≤ nb ∧ m = LB.length ∧ nA ≤ 1048640 ∧ nb ≤ 1048576) := ⟨by rw [hLA.out]; exact st_le _ _, by rw [hLB.out]; exact st_le _ _, by rw [hLB.out]; exact hm.out, by have := HN.out; have := hnA.out; have := hz.out; omega, by have := hz.out; omega⟩
  have R6 : Hid (Ri w5.heap.size LB (.slice a6 m c6) w6) := by rw [hLB.out]; exact r6
  have B6 : Hid (Below w.heap.size w w6) := B5.out.trans (b6.mono B5.out.size)
  have J6 : Hid (Jn w4 w6 v5.ownBlock LA v5 w6) := ⟨by rw [hLA.out]; exact Ri_below R5.out b6, BB5.out.trans (b6.mono BB5.out.size), ⟨rfl, rfl, rfl, Nat.le_refl _, fun _ _ _ => rfl⟩, .inl rfl⟩
  obtain ⟨row, hrow⟩ : ∃ row, Hid (row = v5.ownBlock) := ⟨_, rfl⟩
  rw [← hrow.out] at J6
  have HROW : Hid (∀ g, row = some g → g < w5.heap.size) := fun g hg => (HV5.out g (by rw [← hrow.out]; exact hg)).2
  clear r6 b6 R5 HV5 hrow BB5
  go_wp2_with fail
  go_loopw [6, 25] (fun v p wr => ∃ k : Nat, k ≤ m ∧ p = .int .i64 (k : Int) ∧ Jn w4 w6 row (LA ++ (LB.take k).map (· + nA)) v wr) (fun _ p _ => ((m : Int) - intOf p).toNat)
  case atStart => exact ⟨0, Nat.zero_le _, rfl, by have h := J6.out; rw [e5] at h; simpa using h⟩
  case round =>
    obtain ⟨k, hk, rfl, hj⟩ := hrel
    by_cases hlt : k < m
    · have d0 : (0 : Int) ≤ (k : Int) := by omega
      have d1 : (k : Int) < (m : Int) := by omega
      have hkl : k < LB.length := by have := HLl.out; omega
      obtain ⟨g6, rfl, hg6, hc6⟩ := Ri_at (Ri_keep R6.out hj.gr HROW.out) (by omega)
      have ck := hc6 k hkl
      obtain ⟨x, hx⟩ : ∃ x, Hid (x = LB.getD k 0) := ⟨_, rfl⟩
      rw [← hx.out] at ck
      have hxl : x ≤ 1048576 := by
        have hmem : x ∈ (Cd.st b nb).1 := by
          rw [← hLB.out, hx.out, List.getD_eq_getElem?_getD, List.getElem?_eq_getElem hkl]
          exact List.getElem_mem hkl
        have := ((st_all2 b nb) x hmem)
        have := hz.out
        omega
      obtain ⟨y, hy⟩ : ∃ y : Nat, Hid (y = x + nA) := ⟨_, rfl⟩
      have hwy : wrap64 ((x : Int) + (nA : Int)) = (y : Int) := by have := hy.out; have := HLl.out; unfold wrap64; omega
      obtain ⟨v', w', hap, hj'⟩ := Jn_step hj y (by have := HLl.out; rw [List.length_append, List.length_map, List.length_take]; omega) 26
      have HL2 : Hid (LA ++ (LB.take k).map (· + nA) ++ [y] = LA ++ (LB.take (k + 1)).map (· + nA)) := by
        show _ = _
        rw [List.take_succ_eq_append_getElem hkl, List.map_append, List.append_assoc, hy.out, hx.out, List.getD_eq_getElem?_getD, List.getElem?_eq_getElem hkl]
        rfl
      have HJ : Hid (Jn w4 w6 row (LA ++ (LB.take (k + 1)).map (· + nA)) v' w') := by
        show Jn _ _ _ _ _ _
        rw [← HL2.out]
        exact hj'
      have hw := stwI k m hlt (by have := HLl.out; omega)
      have hm2 := stmW k m hlt (by have := HLl.out; omega)
      obtain ⟨av, cv, ev⟩ := Ri_form hj.own
      subst ev
      clear hj hj' hc6 hg6 HL2 hxl
      generalize (LA ++ (LB.take k).map (· + nA)).length = lv at *
      have HWY : Hid _ := hwy
      clear hwy
      have hwy := HWY.out
      go_wp2_with (at_builtin; refine wpl_ap rfl rfl rfl rfl hap ?_)
      go_roundw
      case rel => exact ⟨k + 1, hlt, by first | rfl | (rw [hw.out]; rfl), HJ.out⟩
      case measure =>
        first
          | exact hm2.out
          | (show ((m : Int) - ((k : Int) + 1)).toNat < ((m : Int) - (k : Int)).toNat
             omega)
    · obtain rfl : k = m := by omega
      obtain ⟨LW, hLW⟩ : ∃ LW, Hid (LW = LA ++ LB.map (· + nA)) := ⟨_, rfl⟩
      have hk2 : LB.take k = LB := List.take_of_length_le (by have := HLl.out; omega)
      rw [hk2, ← hLW.out] at hj
      obtain ⟨av, cv, ev⟩ := Ri_form hj.own
      obtain ⟨n2, hn2⟩ : ∃ n2, Hid (n2 = LW.length) := ⟨_, rfl⟩
      rw [← hn2.out] at ev
      subst ev
      have HJ : Hid (Jn w4 w6 row LW (.slice av n2 cv) wr) := hj
      have BR : Hid (Below w.heap.size w wr) := B4.out.trans (hj.b5.mono B4.out.size)
      have AR : Hid (Sl A (.slice a3 nA c3) wr) := Sl_below A4.out hj.b5
      have ABR : Hid (Sl (A ++ b) (.slice a4 M c4) wr) := Sl_below S4.out hj.b5
      have HN2 : Hid (n2 ≤ 2097152) := by show _ ≤ _; have h1 := hn2.out; have h2 := hLW.out; have h3 := HLl.out; have h4 := MN.out; rw [h2, List.length_append, List.length_map] at h1; omega
      have HLW : Hid ((Cd.st (A ++ b) M).1 = LW) := by
        show _ = _
        rw [hLW.out, hLA.out, hLB.out, MN.out.1, hnA.out, hnb.out]
        exact land_join A b H0.out
      have HDJ : Hid (dis (A ++ b) = dis A ++ dis b) := by
        have := dis_join A b H0.out A.length 0 (by omega) (Nat.zero_le _) rfl
        rw [List.drop_zero, List.drop_zero] at this
        exact this
      clear hj hk2 J6 R6 HROW A4 S4 B4 B5 B6
      go_wp2_with fail
      refine (KD.out A nA a3 c3 wr hnA.out (by have := HLl.out; omega) AR.out).mono ?_
      rintro e w7 ⟨q1, m1, d1, rfl, hm1, g1, b7⟩
      have O7 : Hid (Ri w4.heap.size LW (.slice av n2 cv) w7) := Ri_below HJ.out.own b7
      have B7 : Hid (Below w.heap.size w w7) := BR.out.trans (b7.mono BR.out.size)
      have AB7 : Hid (Sl (A ++ b) (.slice a4 M c4) w7) := Sl_below ABR.out b7
      have G1 : Hid (m1 = (dis A).length ∧ Vg (dis A) q1 w7) := ⟨hm1, g1⟩
      clear b7 HJ BR AR ABR hm1 g1
      go_wp2_with fail
      refine (KD.out b nb bo cb w7 hnb.out (by have := HLl.out; omega) (SB.out w7 B7.out)).mono ?_
      rintro e w8 ⟨q2, m2, d2, rfl, hm2, g2, b8⟩
      have O8 : Hid (Ri w4.heap.size LW (.slice av n2 cv) w8) := Ri_below O7.out b8
      have B8 : Hid (Below w.heap.size w w8) := B7.out.trans (b8.mono B7.out.size)
      have AB8 : Hid (Sl (A ++ b) (.slice a4 M c4) w8) := Sl_below AB7.out b8
      have G8 : Hid (m1 = (dis A).length ∧ Vg (dis A) q1 w8) := ⟨G1.out.1, Vg_below G1.out.2 b8⟩
      have H8 : Hid (m2 = (dis b).length ∧ Vg (dis b) q2 w8) := ⟨hm2, g2⟩
      clear b8 O7 B7 AB7 G1 hm2 g2
      go_wp2_with fail
      refine (KL.out (A ++ b) M a4 c4 w8 hM.out MN.out.2 AB8.out).mono ?_
      rintro e w9 ⟨v9, rfl, r9, b9⟩
      rw [HLW.out] at r9
      obtain ⟨a9, c9, e9⟩ := Ri_form r9
      rw [← hn2.out] at e9
      subst e9
      have O9 : Hid (Ri w4.heap.size LW (.slice av n2 cv) w9) := Ri_below O8.out b9
      have R9 : Hid (Ri w8.heap.size LW (.slice a9 n2 c9) w9) := r9
      have B9 : Hid (Below w.heap.size w w9) := B8.out.trans (b9.mono B8.out.size)
      have AB9 : Hid (Sl (A ++ b) (.slice a4 M c4) w9) := Sl_below AB8.out b9
      have G9 : Hid (m1 = (dis A).length ∧ Vg (dis A) q1 w9) := ⟨G8.out.1, Vg_below G8.out.2 b9⟩
      have H9 : Hid (m2 = (dis b).length ∧ Vg (dis b) q2 w9) := ⟨H8.out.1, Vg_below H8.out.2 b9⟩
      clear b9 O8 B8 AB8 G8 H8 r9
      go_wp2_with fail
      refine (equal_big LW n2 hn2.out HN2.out w8.heap.size w4.heap.size a9 av c9 cv w9 R9.out O9.out).mono ?_
      rintro e w10 ⟨rfl, b10⟩
      have B10 : Hid (Below w.heap.size w w10) := B9.out.trans (b10.mono B9.out.size)
      have AB10 : Hid (Sl (A ++ b) (.slice a4 M c4) w10) := Sl_below AB9.out b10
      have G10 : Hid (m1 = (dis A).length ∧ Vg (dis A) q1 w10) := ⟨G9.out.1, Vg_below G9.out.2 b10⟩
      have H10 : Hid (m2 = (dis b).length ∧ Vg (dis b) q2 w10) := ⟨H9.out.1, Vg_below H9.out.2 b10⟩
      clear b10 O9 R9 B9 AB9 G9 H9
      go_wp2_with fail
      refine (KD.out (A ++ b) M a4 c4 w10 hM.out MN.out.2 AB10.out).mono ?_
      rintro e w11 ⟨q3, m3, d3, rfl, hm3, g3, b11⟩
      rw [HDJ.out] at hm3 g3
      have B11 : Hid (Below w.heap.size w w11) := B10.out.trans (b11.mono B10.out.size)
      have G11 : Hid (m1 = (dis A).length ∧ Vg (dis A) q1 w11) := ⟨G10.out.1, Vg_below G10.out.2 b11⟩
      have H11 : Hid (m2 = (dis b).length ∧ Vg (dis b) q2 w11) := ⟨H10.out.1, Vg_below H10.out.2 b11⟩
      have I11 : Hid (m3 = (dis A ++ dis b).length ∧ Vg (dis A ++ dis b) q3 w11) := ⟨hm3, g3⟩
      have HZ : Hid ((dis A).length + (dis b).length ≤ 4194304) := by
        show _ ≤ _
        have h1 := (dis_lens A.length A (Nat.le_refl _)).2
        have h2 := (dis_lens b.length b (Nat.le_refl _)).2
        have h3 := HLl.out
        have h4 := hnA.out
        have h5 := hnb.out
        omega
      clear b11 B10 AB10 G10 H10 hm3 g3
      go_wp2_with fail
      refine (cat_s2 (dis A) (dis b) q1 q2 m1 m2 d1 d2 G11.out.1 H11.out.1 w11 _ HZ.out G11.out.2 H11.out.2).mono ?_
      rintro e w12 ⟨q4, d4, rfl, g4, b12⟩
      have B12 : Hid (Below w.heap.size w w12) := B11.out.trans (b12.mono B11.out.size)
      have I12 : Hid (Vg (dis A ++ dis b) q3 w12) := Vg_below I11.out.2 b12
      have G12 : Hid (Vg (dis A ++ dis b) q4 w12) := g4
      have HM3 : Hid (m3 = (dis A ++ dis b).length) := I11.out.1
      rw [← HM3.out]
      clear b12 B11 G11 H11 I11 g4
      go_wp2_with fail
      refine (eq_same (dis A ++ dis b) m3 HM3.out (by rw [HM3.out, List.length_append]; exact HZ.out) q3 q4 d3 d4 w12 I12.out G12.out).mono ?_
      rintro e w13 ⟨rfl, b13⟩
      have B13 : Hid (Below w.heap.size w w13) := B12.out.trans (b13.mono B12.out.size)
      clear b13 B12 I12 G12
      go_wp2_with fail
      go_ret
      exact ⟨rfl, B13.out⟩
end Cd
end Go.Proofs.YtmlddefoehgofabDoor
/- What every card of this seat wants: a world that holds the two tables; the bound's readings. -/
namespace Go.Proofs.YtmlddefoehgofabDoor
namespace Cd
open Go.ChangeShapes Go.WideShapes Go.ChangeAt Go.RowKit
theorem own : ownKnob Tryd.prog.godebug = none := by kernel_rfl
theorem laidOut : laidOutB Tryd.prog = true := by kernel_rfl
def lay0 : Obj → Obj
  | .cells _ t frozen => .cells (Go.Pinned.utf8FirstZ.map fun n => .int .u8 (n : Int)).toArray t frozen
  | o => o
def lay1 : Obj → Obj
  | .cells _ t frozen => .cells #[.int .u8 128, .int .u8 191, .int .u8 160, .int .u8 191, .int .u8 128, .int .u8 159, .int .u8 144, .int .u8 191, .int .u8 128, .int .u8 143, .int .u8 0, .int .u8 0, .int .u8 0, .int .u8 0, .int .u8 0, .int .u8 0, .int .u8 0, .int .u8 0, .int .u8 0, .int .u8 0, .int .u8 0, .int .u8 0, .int .u8 0, .int .u8 0, .int .u8 0, .int .u8 0, .int .u8 0, .int .u8 0, .int .u8 0, .int .u8 0, .int .u8 0, .int .u8 0] t frozen
  | o => o
noncomputable def laidWorld (os : Os) : World :=
  { World.holding Tryd.prog os ⟨#[], #[], []⟩ with heap := ((World.holding Tryd.prog os ⟨#[], #[], []⟩).heap.modify 0 lay0).modify 1 lay1 }
theorem blk_one {H : Type} (d : DataW H) : 1 ≤ Rows.uptoBulk d := by
  unfold Rows.uptoBulk
  split <;> omega
theorem blk_len {H : Type} : ∀ l : List (DataW H), l.length ≤ Rows.uptoBulkAll l
  | [] => Nat.zero_le _
  | d :: r => by
    have h1 := blk_one d
    have h2 := blk_len r
    rw [Rows.uptoBulkAll, List.length_cons]
    omega
theorem blk_slice {H : Type} (el sp : List (DataW H)) : el.length ≤ Rows.uptoBulk (.slice el sp) := by
  have := blk_len el
  rw [Rows.uptoBulk]
  omega
theorem small1 {H : Type} (d0 : DataW H) (gs : List (DataW H)) (hk : Rows.uptoSmall H ([d0] ++ gs) = true) : Rows.uptoBulk d0 ≤ 1048576 := by
  have h : Rows.uptoBulkAll ([d0] ++ gs) ≤ 1048576 := of_decide_eq_true hk
  simp only [List.cons_append, List.nil_append, Rows.uptoBulkAll] at h
  omega
theorem small2 {H : Type} (d0 d1 : DataW H) (gs : List (DataW H)) (hk : Rows.uptoSmall H ([d0, d1] ++ gs) = true) : Rows.uptoBulk d0 ≤ 1048576 ∧ Rows.uptoBulk d1 ≤ 1048576 := by
  have h : Rows.uptoBulkAll ([d0, d1] ++ gs) ≤ 1048576 := of_decide_eq_true hk
  simp only [List.cons_append, List.nil_append, Rows.uptoBulkAll] at h
  omega
theorem len_of {H : Type} {d : DataW H} {l : List UInt8} {n : Nat} (k : Rows.uptoBulk d ≤ n) (hd : l = [] ∨ ∃ elems spare, d = .slice elems spare ∧ elems.length = l.length) : Hid (l.length ≤ n) := by
  show _ ≤ _
  rcases hd with rfl | ⟨el, sp, rfl, he⟩
  · exact Nat.zero_le _
  · rw [← he]
    exact Nat.le_trans (blk_slice el sp) k
theorem sum2 {H : Type} (d0 d1 : DataW H) (gs : List (DataW H)) (hk : Rows.uptoSmall H ([d0, d1] ++ gs) = true) : Rows.uptoBulk d0 + Rows.uptoBulk d1 ≤ 1048576 := by
  have h : Rows.uptoBulkAll ([d0, d1] ++ gs) ≤ 1048576 := of_decide_eq_true hk
  simp only [List.cons_append, List.nil_append, Rows.uptoBulkAll] at h
  omega
theorem sum_of {H : Type} {d0 d1 : DataW H} {l m : List UInt8} {n : Nat} (k : Rows.uptoBulk d0 + Rows.uptoBulk d1 ≤ n) (h0 : l = [] ∨ ∃ elems spare, d0 = .slice elems spare ∧ elems.length = l.length) (h1 : m = [] ∨ ∃ elems spare, d1 = .slice elems spare ∧ elems.length = m.length) : Hid (l.length + m.length ≤ n) := by
  have e0 := (len_of (Nat.le_refl _) h0).out
  have e1 := (len_of (Nat.le_refl _) h1).out
  show _ ≤ _
  omega
end Cd
end Go.Proofs.YtmlddefoehgofabDoor
/- Bytes that came in. -/
namespace Go.Proofs.YtmlddefoehgofabDoor
namespace Sp
open Go.ChangeShapes Go.WideShapes Go.ChangeAt Go.RowKit Go.Joins
theorem ownK : ownKnob Tryd.prog.godebug = none := by kernel_rfl
theorem laidOutK : laidOutB Tryd.prog = true := by kernel_rfl
theorem cellsU8 : Tryd.prog.cellsOf 5 = 1 := by kernel_rfl
theorem bytesU8 : Tryd.prog.bytesOf 5 = 1 := by kernel_rfl
/-- Numbers as bytes. -/
def ub (zs : List Int) : List UInt8 := zs.map fun z => UInt8.ofNat z.toNat
theorem ub_length (zs : List Int) : (ub zs).length = zs.length := by simp [ub]
theorem ub_bz (zs : List Int) (hz : ∀ z ∈ zs, 0 ≤ z ∧ z < 256) (j : Nat) (h : j < zs.length) : bz (ub zs) j = zs.getD j 0 := by
  have hm := hz zs[j] (List.getElem_mem h)
  have h2 : j < (ub zs).length := by rw [ub_length]; exact h
  unfold bz
  rw [List.getD_eq_getElem?_getD, List.getD_eq_getElem?_getD, List.getElem?_eq_getElem h2, List.getElem?_eq_getElem h]
  simp only [Option.getD_some, ub, List.getElem_map, UInt8.toNat_ofNat']
  omega
set_option maxRecDepth 100000 in
theorem open_bytes {H : Type} {enc : TypeId × Value → H} {W : World} {r : Reach} {b0 : Nat} {v : Value} {d : DataW H} {p : List MemPlace}
    (hv : Value.okWide Tryd.prog W r b0 22 v) (h : DataW.Trod enc Tryd.prog W 0 (fun _ => true) true 22 v d p) :
    ∃ (l : List UInt8) (ao : Option Addr) (cap : Nat), v = .slice ao l.length cap ∧ l.length ≤ cap ∧ Vw l ao W ∧ (l = [] ∨ ∃ elems spare, d = .slice elems spare ∧ elems.length = l.length) := by
  obtain ⟨a0, len, cap, rfl⟩ := okWide_slice Tryd.underlying22 hv
  obtain ⟨fuel, hf⟩ := h
  rcases open_ints Tryd.underlying22 Tryd.underlying5 cellsU8 hf with ⟨hcs, hx⟩ | ⟨a, len', cap', zs, hcs, _, hl, hm, hz, hx, hcell, hwz⟩
  · simp [Value.cells] at hcs
    obtain ⟨rfl, rfl, rfl⟩ := hcs
    exact ⟨[], none, 0, rfl, Nat.le_refl _, Vw_nil _ _, .inl rfl⟩
  · simp [Value.cells] at hcs
    obtain ⟨rfl, rfl, rfl⟩ := hcs
    simp only [if_true] at hz
    have hb : ∀ z ∈ zs, 0 ≤ z ∧ z < 256 := fun z hz' => by have := bounds_u8 (hwz z hz'); omega
    have hb' : ∀ z ∈ zs.take len, 0 ≤ z ∧ z < 256 := fun z hz' => hb z (List.mem_of_mem_take hz')
    have hlt : (ub (zs.take len)).length = len := by rw [ub_length, List.length_take]; omega
    simp only [Prod.mk.injEq] at hx
    refine ⟨ub (zs.take len), some a, cap, by rw [hlt], by rw [hlt]; exact hl, ?_, .inr ⟨_, _, hx.1, by simp [lits, hlt]; omega⟩⟩
    intro h0
    rw [hlt] at h0
    obtain ⟨b, off, rfl, hc⟩ := ints_at hcell (by omega)
    refine ⟨b, off, rfl, ?_, fun j hj => ?_⟩
    · exact World.block_lt_of_cell? W ⟨b, off + 0, none⟩ (hc 0 (by omega))
    · rw [hlt] at hj
      rw [hc j (by omega), ub_bz _ hb' j (by rw [List.length_take]; omega)]
      simp [List.getD_eq_getElem?_getD, hj]
end Sp
end Go.Proofs.YtmlddefoehgofabDoor
/- A slice of bytes that came in: its room too. -/
namespace Go.Proofs.YtmlddefoehgofabDoor
namespace Sp
open Go.ChangeShapes Go.WideShapes Go.ChangeAt Go.RowKit
set_option maxRecDepth 100000 in
theorem open_bytes2 {H : Type} {enc : TypeId × Value → H} {W : World} {r : Reach} {b0 : Nat} {v : Value} {d : DataW H} {p : List MemPlace}
    (hv : Value.okWide Tryd.prog W r b0 22 v) (h : DataW.Trod enc Tryd.prog W 0 (fun _ => true) true 22 v d p) :
    ∃ (l : List UInt8) (ao : Option Addr) (cap : Nat), v = .slice ao l.length cap ∧ l.length ≤ cap ∧ (cap : Int) ≤ 9223372036854775807 ∧ Vw l ao W ∧ (l = [] ∨ ∃ elems spare, d = .slice elems spare ∧ elems.length = l.length) := by
  obtain ⟨l, ao, cap, rfl, h1, h2, h3⟩ := open_bytes hv h
  refine ⟨l, ao, cap, rfl, h1, ?_, h2, h3⟩
  obtain ⟨fuel, hf⟩ := h
  rcases open_ints Tryd.underlying22 Tryd.underlying5 cellsU8 hf with ⟨hcs, _⟩ | ⟨a, len', cap', zs, hcs, _, _, hm, _⟩
  · simp [Value.cells] at hcs
    omega
  · simp [Value.cells] at hcs
    obtain ⟨_, _, rfl⟩ := hcs
    unfold maxLen at hm
    omega
end Sp
end Go.Proofs.YtmlddefoehgofabDoor
