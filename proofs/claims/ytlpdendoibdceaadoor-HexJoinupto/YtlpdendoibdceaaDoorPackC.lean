/- hex.ParseNumber. -/
import Derived.Test.YtlpdendoibdceaaDoorPackB
import Derived.Test.YtlpdendoibdceaaDoorPackA
import Derived.ChangeKeysEq
import Derived.ProofKit
import Derived.OpenShut
import Derived.ShutString
import Derived.ChangeOld
import Derived.Laws.IdiomArrays
import Derived.Lib.SmallJoins
import Derived.Laws.BytesArg
namespace Go.Proofs.YtlpdendoibdceaaDoor
open Go.RowKit
/-- A string that is a number's form. -/
def Pn (l : List UInt8) : Prop := l.take 2 = [48, 120] ∧ (l.drop 2).length ≤ 64 ∧ Cn (l.drop 2)
theorem res42 (f : Func) (tm : Array Value) (W : World) (g y s u : Nat) (c : Int) (hf : f.results = #[.cell s 24, .tmp u]) (h : tm.getD s undef = .pointer (some ⟨g, 0, none⟩)) (h2 : tm.getD u undef = .int .i64 c) (cc : CF g 4 (dg y) W) : (results f tm).run Tryd.prog W = .ok (.tuple #[Wd y, .int .i64 c]) W := by
  have c2 : ∀ o, o < 4 → W.cell? ⟨g, o, none⟩ = some (.int .u64 (dg y o)) := cc
  simp at h h2
  simp [Wd, results, hf, go_sem, h, h2, c2]
set_option maxHeartbeats 400000 in
set_option maxRecDepth 100000 in
theorem pnum_pre (l : List UInt8) (hp : ¬ l.take 2 = [48, 120]) (w : World) :
    Calls Tryd.prog 8 #[.string ⟨l.toArray⟩] w fun e w' => e = .returned (.tuple #[Wd 0, .int .i64 1]) ∧ Below w.heap.size w w' := by
  have K1 : Hid (∀ w, Calls Tryd.prog 16 #[.string ⟨l.toArray⟩, .string ⟨#[48, 120]⟩] w fun e w' => e = .returned (.tuple #[.string (if l.take 2 = [48, 120] then ⟨(l.drop 2).toArray⟩ else ⟨l.toArray⟩), .bool (decide (l.take 2 = [48, 120]))]) ∧ w' = w) := cut_any l
  rw [if_neg hp, decide_eq_false hp] at K1
  clear hp
  go_enter Tryd.func8, Tryd.ntmps8
  go_wp2_with fail
  refine (K1.out _).mono (fun e w2 he => ?_)
  obtain ⟨rfl, rfl⟩ := he
  go_wp2
  refine bodyPost_ret (v := .tuple #[Wd 0, .int .i64 1]) (by simp [Wd, dg, results, Tryd.results8, go_sem]) rfl ⟨rfl, ?_⟩
  repeat (first | exact Below.refl _ _ | refine Below.drew ?_ | refine Below.setCell ?_ (by simp <;> omega) _ | refine Below.alloc ?_ (by simp <;> omega) _)
set_option maxHeartbeats 400000 in
set_option maxRecDepth 100000 in
theorem pnum_not (l : List UInt8) (hp : l.take 2 = [48, 120]) (hs : ∀ w, Calls Tryd.prog 17 #[.string ⟨(l.drop 2).toArray⟩] w fun e w' => e = .returned (.bool false) ∧ w' = w) (w : World) :
    Calls Tryd.prog 8 #[.string ⟨l.toArray⟩] w fun e w' => e = .returned (.tuple #[Wd 0, .int .i64 1]) ∧ Below w.heap.size w w' := by
  have K1 : Hid (∀ w, Calls Tryd.prog 16 #[.string ⟨l.toArray⟩, .string ⟨#[48, 120]⟩] w fun e w' => e = .returned (.tuple #[.string (if l.take 2 = [48, 120] then ⟨(l.drop 2).toArray⟩ else ⟨l.toArray⟩), .bool (decide (l.take 2 = [48, 120]))]) ∧ w' = w) := cut_any l
  rw [if_pos hp, decide_eq_true hp] at K1
  have K2 : Hid _ := hs
  clear hp hs
  generalize (⟨(l.drop 2).toArray⟩ : ByteArray) = D at *
  go_enter Tryd.func8, Tryd.ntmps8
  go_wp2_with fail
  refine (K1.out _).mono (fun e w2 he => ?_)
  obtain ⟨rfl, rfl⟩ := he
  go_wp2_with fail
  refine (K2.out _).mono (fun e w2 he => ?_)
  obtain ⟨rfl, rfl⟩ := he
  go_wp2
  refine bodyPost_ret (v := .tuple #[Wd 0, .int .i64 1]) (by simp [Wd, dg, results, Tryd.results8, go_sem]) rfl ⟨rfl, ?_⟩
  repeat (first | exact Below.refl _ _ | refine Below.drew ?_ | refine Below.setCell ?_ (by simp <;> omega) _ | refine Below.alloc ?_ (by simp <;> omega) _)
theorem lt_of_heap {W : World} {g : Nat} {o : Obj} (h : W.heap[g]? = some o) : g < W.heap.size := by
  obtain ⟨h1, _⟩ := Array.getElem?_eq_some_iff.1 h
  exact h1
/-- What word.Read makes of what hex.read left. -/
theorem hread_word (d : List UInt8) (m : Nat) (hm : 1 ≤ m) (hm2 : m ≤ 32) (hl : d.length = 2 * m) (w : World) :
    Calls Tryd.prog 18 #[.string ⟨d.toArray⟩] w fun e w' => ∃ (v : Value) (c : Int) (n : Nat), e = .returned (.tuple #[v, .int .i64 c]) ∧ ((Gds d ∧ c = 0 ∧ n = hv 0 d) ∨ (¬ Gds d ∧ c = 1 ∧ n = 0)) ∧ Below w.heap.size w w' ∧ Calls Tryd.prog 19 #[v] w' fun e w2 => e = .returned (Wd n) ∧ Below w'.heap.size w' w2 := by
  refine (hread_any d m hl (by show m ≤ _; omega) w).mono fun e w' he => ?_
  rw [← gds_iff] at he
  obtain ⟨⟨hG, v, rfl, ho⟩ | ⟨hG, rfl⟩, hb⟩ := he
  · refine ⟨v, 0, hv 0 d, rfl, .inl ⟨hG, rfl, rfl⟩, hb, ?_⟩
    rcases ho.2 with ⟨h3, h4⟩ | ⟨g, cap, cur, h3, h5⟩
    · omega
    · subst h3
      have k := read_any g 0 m cap (fun j => (rd d d.length j).toNat) w' (by omega) hm (lt_of_heap h5.2.1) (rd_byte d _) (fun j hj => by
        rw [Nat.zero_add, ho.cellAt j (by omega), rds_at _ _ _ _ hj, rd_nn d m j hl hG hj])
      have e1 : min m 32 = m := by omega
      rw [e1] at k
      have e2 := le_rv (fun j => (rd d d.length j).toNat) 0 m
      rw [Nat.zero_add] at e2
      rwa [e2, hv_rd' d m hl hG] at k
  · exact ⟨_, 1, 0, rfl, .inr ⟨hG, rfl, rfl⟩, hb, read_none none 0 w'⟩
set_option maxHeartbeats 400000 in
set_option maxRecDepth 100000 in
theorem pnum_yes (l : List UInt8) (m : Nat) (hp : l.take 2 = [48, 120]) (hm : m = ((l.drop 2).length + 1) / 2) (h1 : 1 ≤ (l.drop 2).length) (h2 : (l.drop 2).length ≤ 64) (hs : ∀ w, Calls Tryd.prog 17 #[.string ⟨(l.drop 2).toArray⟩] w fun e w' => e = .returned (.bool true) ∧ w' = w) (w : World) :
    Calls Tryd.prog 8 #[.string ⟨l.toArray⟩] w fun e w' => ∃ (c : Int) (n : Nat), e = .returned (.tuple #[Wd n, .int .i64 c]) ∧ ((Gds (l.drop 2) ∧ c = 0 ∧ n = hv 0 (l.drop 2)) ∨ (¬ Gds (l.drop 2) ∧ c = 1 ∧ n = 0)) ∧ Below w.heap.size w w' := by
  have K1 : Hid (∀ w, Calls Tryd.prog 16 #[.string ⟨l.toArray⟩, .string ⟨#[48, 120]⟩] w fun e w' => e = .returned (.tuple #[.string (if l.take 2 = [48, 120] then ⟨(l.drop 2).toArray⟩ else ⟨l.toArray⟩), .bool (decide (l.take 2 = [48, 120]))]) ∧ w' = w) := cut_any l
  rw [if_pos hp, decide_eq_true hp] at K1
  have K2 : Hid _ := hs
  clear hp hs
  have HE := ev_len (l.drop 2)
  have K3 : Hid (∀ w : World, Calls Tryd.prog 18 #[.string ⟨(ev (l.drop 2)).toArray⟩] w fun e w' => ∃ (v : Value) (c : Int) (n : Nat), e = .returned (.tuple #[v, .int .i64 c]) ∧ ((Gds (l.drop 2) ∧ c = 0 ∧ n = hv 0 (l.drop 2)) ∨ (¬ Gds (l.drop 2) ∧ c = 1 ∧ n = 0)) ∧ Below w.heap.size w w' ∧ Calls Tryd.prog 19 #[v] w' fun e w2 => e = .returned (Wd n) ∧ Below w'.heap.size w' w2) := fun w => by
    have k := hread_word (ev (l.drop 2)) m (by omega) (by omega) (by omega) w
    rw [gds_ev, hv_ev] at k
    exact k
  have HA : Hid (∀ w : World, (Op.stringOp .add ⟨#[48]⟩ ⟨(l.drop 2).toArray⟩).run Tryd.prog w = .ok (.string ⟨(48 :: l.drop 2).toArray⟩) w) := fun w => run_string_add_lists w [48] (l.drop 2) (by decide) (by omega)
  have EV : Hid (ev (l.drop 2) = if (l.drop 2).length % 2 = 1 then 48 :: l.drop 2 else l.drop 2) := rfl
  clear HE hm h1 h2
  generalize ev (l.drop 2) = E at *
  generalize hd : l.drop 2 = d at *
  clear hd
  go_enter Tryd.func8, Tryd.ntmps8
  go_wp2_with fail
  have m0 := Vb_new0 w.heap.size w 24 (Nat.le_refl _)
  have b0 : Below w.heap.size w (w.alloc (.cells #[.int .u64 0, .int .u64 0, .int .u64 0, .int .u64 0] 24)) := (Below.refl _ _).alloc (Nat.le_refl _) _
  generalize w.alloc (.cells #[.int .u64 0, .int .u64 0, .int .u64 0, .int .u64 0] 24) = W0 at m0 b0 ⊢
  refine (K1.out _).mono (fun e w2 he => ?_)
  obtain ⟨rfl, rfl⟩ := he
  go_wp2_with fail
  refine (K2.out _).mono (fun e w2 he => ?_)
  obtain ⟨rfl, rfl⟩ := he
  by_cases ho : d.length % 2 = 1
  · have hoi : (d.length : Int) % 2 = 1 := by omega
    have hE := EV.out
    rw [if_pos ho] at hE
    subst hE
    clear EV ho
    have hA := HA.out
    clear HA
    go_wp2_with fail
    clear hA hoi
    refine (K3.out _).mono (fun e w3 he => ?_)
    obtain ⟨v, c, n, rfl, hc, b1, K4⟩ := he
    have HK4 : Hid (Calls Tryd.prog 19 #[v] w3 fun e w2 => e = .returned (Wd n) ∧ Below w3.heap.size w3 w2) := K4
    have HC : Hid _ := hc
    clear K4 hc
    have m1 := Vb_below m0 b1
    have b2 := b0.trans (b1.mono b0.size)
    clear m0 b0 b1
    go_wp2_with fail
    refine HK4.out.mono (fun e w4 he => ?_)
    obtain ⟨rfl, b3⟩ := he
    have m2 := Vb_below m1 b3
    have b4 := b2.trans (b3.mono b2.size)
    clear m1 b2 b3 HK4
    have c0 : ∀ o, o < 4 → w4.cell? ⟨w.heap.size, o, none⟩ = some (.int .u64 (dg 0 o)) := m2.c
    have f0 : ∀ o, w4.frozen? ⟨w.heap.size, o, none⟩ = false := m2.f
    have HV : Hid (CF w.heap.size 4 (dg n) ((((w4.setCell ⟨w.heap.size, 0, none⟩ (.int .u64 (dg n 0))).setCell ⟨w.heap.size, 1, none⟩ (.int .u64 (dg n 1))).setCell ⟨w.heap.size, 2, none⟩ (.int .u64 (dg n 2))).setCell ⟨w.heap.size, 3, none⟩ (.int .u64 (dg n 3)))) := (Vb_set4 m2).c
    have HB : Hid (Below w.heap.size w w4) := b4
    clear m2 b4 K1 K2 K3
    dsimp only [Wd]
    go_wp2_with fail
    exact bodyPost_ret (v := .tuple #[Wd n, .int .i64 c]) (res42 _ _ _ w.heap.size _ 2 3 c rfl rfl rfl HV.out) rfl ⟨c, n, rfl, HC.out, Bel_set4 HB.out (Nat.le_refl _)⟩
  · have hoi : (d.length : Int) % 2 = 0 := by omega
    have hE := EV.out
    rw [if_neg ho] at hE
    subst hE
    clear EV ho HA
    go_wp2_with fail
    clear hoi
    refine (K3.out _).mono (fun e w3 he => ?_)
    obtain ⟨v, c, n, rfl, hc, b1, K4⟩ := he
    have HK4 : Hid (Calls Tryd.prog 19 #[v] w3 fun e w2 => e = .returned (Wd n) ∧ Below w3.heap.size w3 w2) := K4
    have HC : Hid _ := hc
    clear K4 hc
    have m1 := Vb_below m0 b1
    have b2 := b0.trans (b1.mono b0.size)
    clear m0 b0 b1
    go_wp2_with fail
    refine HK4.out.mono (fun e w4 he => ?_)
    obtain ⟨rfl, b3⟩ := he
    have m2 := Vb_below m1 b3
    have b4 := b2.trans (b3.mono b2.size)
    clear m1 b2 b3 HK4
    have c0 : ∀ o, o < 4 → w4.cell? ⟨w.heap.size, o, none⟩ = some (.int .u64 (dg 0 o)) := m2.c
    have f0 : ∀ o, w4.frozen? ⟨w.heap.size, o, none⟩ = false := m2.f
    have HV : Hid (CF w.heap.size 4 (dg n) ((((w4.setCell ⟨w.heap.size, 0, none⟩ (.int .u64 (dg n 0))).setCell ⟨w.heap.size, 1, none⟩ (.int .u64 (dg n 1))).setCell ⟨w.heap.size, 2, none⟩ (.int .u64 (dg n 2))).setCell ⟨w.heap.size, 3, none⟩ (.int .u64 (dg n 3)))) := (Vb_set4 m2).c
    have HB : Hid (Below w.heap.size w w4) := b4
    clear m2 b4 K1 K2 K3
    dsimp only [Wd]
    go_wp2_with fail
    exact bodyPost_ret (v := .tuple #[Wd n, .int .i64 c]) (res42 _ _ _ w.heap.size _ 2 3 c rfl rfl rfl HV.out) rfl ⟨c, n, rfl, HC.out, Bel_set4 HB.out (Nat.le_refl _)⟩
/-- hex.ParseNumber, at every string. -/
theorem pnum_any (l : List UInt8) (w : World) :
    Calls Tryd.prog 8 #[.string ⟨l.toArray⟩] w fun e w' => ∃ (c : Int) (n : Nat), e = .returned (.tuple #[Wd n, .int .i64 c]) ∧ ((Pn l ∧ c = 0 ∧ n = hv 0 (l.drop 2)) ∨ (¬ Pn l ∧ c = 1 ∧ n = 0)) ∧ Below w.heap.size w w' := by
  by_cases hp : l.take 2 = [48, 120]
  · cases hd : l.drop 2 with
    | nil =>
      refine (pnum_not l hp (by rw [hd]; exact short_none) w).mono fun e w' he => ⟨1, 0, he.1, .inr ⟨fun h => ?_, rfl, rfl⟩, he.2⟩
      have := (cn_low _ h.2.2).1
      rw [hd] at this
      exact absurd this (by decide)
    | cons c r =>
      by_cases h64 : 64 ≤ r.length
      · refine (pnum_not l hp (by rw [hd]; exact short_long c r h64) w).mono fun e w' he => ⟨1, 0, he.1, .inr ⟨fun h => ?_, rfl, rfl⟩, he.2⟩
        have := h.2.1
        rw [hd, List.length_cons] at this
        omega
      · have hs := short_some c r (by omega)
        by_cases hb : (!(c == 48) || r.isEmpty) = true
        · rw [hb] at hs
          refine (pnum_yes l _ hp rfl (by rw [hd, List.length_cons]; omega) (by rw [hd, List.length_cons]; omega) (by rw [hd]; exact hs) w).mono fun e w' he => ?_
          obtain ⟨k, n, he1, hk, hB⟩ := he
          rw [hd] at hk
          have hcn : Gds (c :: r) → Cn (c :: r) := fun hg => ⟨hg, by
            by_cases hc : c = 48
            · subst hc
              left
              cases r with
              | nil => rfl
              | cons x y => simp at hb
            · exact .inr ⟨c, r, rfl, hc⟩⟩
          refine ⟨k, n, he1, ?_, hB⟩
          rcases hk with ⟨hg, hk⟩ | ⟨hg, hk⟩
          · exact .inl ⟨⟨hp, by rw [hd, List.length_cons]; omega, by rw [hd]; exact hcn hg⟩, hk⟩
          · exact .inr ⟨fun h => hg (by have := h.2.2.1; rwa [hd] at this), hk⟩
        · rw [Bool.eq_false_iff.2 hb] at hs
          refine (pnum_not l hp (by rw [hd]; exact hs) w).mono fun e w' he => ⟨1, 0, he.1, .inr ⟨fun h => hb ?_, rfl, rfl⟩, he.2⟩
          have := h.2.2.2
          rw [hd] at this
          rcases this with h1 | ⟨c', r', h1, h2⟩
          · obtain ⟨rfl, rfl⟩ := List.cons.inj h1
            rfl
          · obtain ⟨rfl, rfl⟩ := List.cons.inj h1
            simp [h2]
  · exact (pnum_pre l hp w).mono fun e w' he => ⟨1, 0, he.1, .inr ⟨fun h => hp h.1, rfl, rfl⟩, he.2⟩
end Go.Proofs.YtlpdendoibdceaaDoor
/- The law HexPrints. -/
namespace Go.Proofs.YtlpdendoibdceaaDoor
open Go.RowKit
/-- A slice that turns to the string T, now and later. -/
def Cv (T : ByteArray) (v : Value) (w : World) : Prop := ∀ W, Below w.heap.size w W → (convert 30 9 v).run Tryd.prog W = .ok (.string T) W
def bl (l : List UInt8) (m : Nat) : List UInt8 := (List.range m).map fun j => UInt8.ofNat (bx l j).toNat
theorem bl_length (l : List UInt8) (m : Nat) : (bl l m).length = m := by simp [bl]
theorem cv_nil (w : World) : Cv ⟨#[]⟩ (.slice none 0 0) w := fun W _ => by
  rw [run_convert_bytes_string W 30 9 5 none 0 0 Tryd.underlying30 Tryd.underlying5 Tryd.underlying9]
  rfl
theorem bx_at (l : List UInt8) (m j : Nat) (hG : Gd l m) (hj : j < m) : ((UInt8.ofNat (bx l j).toNat).toNat : Int) = bx l j := by
  have h := hG j hj
  have h1 := dx_le l (2 + 2 * j)
  have h2 := dx_le l (2 + 2 * j + 1)
  have hb : bx l j = 16 * dx l (2 + 2 * j) + dx l (2 + 2 * j + 1) := rfl
  rw [UInt8.toNat_ofNat']
  omega
theorem cv_row {base : Nat} {l : List UInt8} {m : Nat} {v : Value} {w : World} (h : w.ownsRow base 5 1 v m (bxs l m)) (hG : Gd l m) : Cv ⟨(bl l m).toArray⟩ v w := fun W hb => by
  have h2 := ownb h hb
  rcases h2.2 with ⟨h3, h4⟩ | ⟨g, cap, cur, h3, _⟩
  · subst h4
    rw [h3]
    exact cv_nil w W hb
  · subst h3
    have k := run_convert_bytes_back (P := Tryd.prog) W 30 9 5 ⟨g, 0, none⟩ cap (bl l m) Tryd.underlying30 Tryd.underlying5 Tryd.underlying9 (fun j hj => by
      rw [bl_length] at hj
      have ea : (⟨g, 0, none⟩ : Addr).add j = ⟨g, j, none⟩ := by unfold Addr.add; split <;> simp_all
      rw [ea, h2.cellAt j (by omega)]
      have e := bx_at l m j hG hj
      simp only [bl, List.getElem_map, List.getElem_range]
      rw [e]
      simp [bxs, hj])
    rwa [bl_length] at k
theorem both (l : List UInt8) (hn : Hid (l.length ≤ 1048576)) : ∃ (T : ByteArray) (c : Int), (∀ w : World, Calls Tryd.prog 13 #[.string ⟨l.toArray⟩] w fun e w' => ∃ v, e = .returned (.tuple #[v, .int .i64 c]) ∧ Cv T v w' ∧ Below w.heap.size w w') ∧ (∀ w : World, Calls Tryd.prog 20 #[.string ⟨l.toArray⟩] w fun e w' => ∃ v, e = .returned (.tuple #[v, .int .i64 c]) ∧ Cv T v w' ∧ Below w.heap.size w w') := by
  by_cases hb : l.length < 2 ∨ l.take 2 ≠ [48, 120] ∨ l.length % 2 = 1
  · refine ⟨⟨#[]⟩, 1, fun w => (parse_form l hb w).mono fun e w' he => ?_, fun w => (xparse_form l hb w).mono fun e w' he => ?_⟩ <;>
      exact ⟨_, he.1, cv_nil _, by rw [he.2]; exact Below.refl _ _⟩
  · have hp : l.take 2 = [48, 120] := by
      by_cases h : l.take 2 = [48, 120]
      · exact h
      · exact absurd (.inr (.inl h)) hb
    obtain ⟨m, hm⟩ : ∃ m, l.length = 2 + 2 * m := ⟨(l.length - 2) / 2, by omega⟩
    by_cases hG : Gd l m
    · refine ⟨⟨(bl l m).toArray⟩, 0, fun w => (parse_any l m hm hp hn w).mono fun e w' he => ?_, fun w => (xparse_any l m hm hp hn w).mono fun e w' he => ?_⟩
      all_goals
        obtain ⟨⟨_, v, rfl, ho⟩ | ⟨h, _⟩, hbel⟩ := he
        · exact ⟨v, rfl, cv_row ho hG, hbel⟩
        · exact absurd hG h
    · refine ⟨⟨#[]⟩, 1, fun w => (parse_any l m hm hp hn w).mono fun e w' he => ?_, fun w => (xparse_any l m hm hp hn w).mono fun e w' he => ?_⟩
      all_goals
        obtain ⟨⟨h, _⟩ | ⟨_, rfl⟩, hbel⟩ := he
        · exact absurd h hG
        · exact ⟨_, rfl, cv_nil _, hbel⟩
end Go.Proofs.YtlpdendoibdceaaDoor
/- What a call holds in memory: a list of blocks of its own, each with its cells; all below the call's start is as it was. -/
namespace Go.Proofs.YtlpdendoibdceaaDoor
namespace Hm
open Go.RowKit
structure Bk where
  g : Nat
  n : Nat
  F : Nat → Value
structure Ok (B : Nat) (k : Bk) (wx : World) : Prop where
  lo : B ≤ k.g
  hi : k.g < wx.heap.size
  c : ∀ o, o < k.n → wx.cell? ⟨k.g, o, none⟩ = some (k.F o)
  f : ∀ o, wx.frozen? ⟨k.g, o, none⟩ = false
structure Hd (w : World) (L : List Bk) (wx : World) : Prop where
  bel : Below w.heap.size w wx
  ok : ∀ k, k ∈ L → Ok w.heap.size k wx
/-- A word's block. -/
def W4 (g x : Nat) : Bk := ⟨g, 4, fun o => .int .u64 (dg x o)⟩
def updv (F : Nat → Value) (k : Nat) (v : Value) : Nat → Value := fun o => if o = k then v else F o
theorem Ok_below {B : Nat} {k : Bk} {w1 w2 : World} (h : Ok B k w1) (hb : Below w1.heap.size w1 w2) : Ok B k w2 :=
  ⟨h.lo, Nat.lt_of_lt_of_le h.hi hb.size, fun o ho => (hb.cell (p := ⟨k.g, o, none⟩) h.hi).trans (h.c o ho), fun o => (hb.frozen (p := ⟨k.g, o, none⟩) h.hi).trans (h.f o)⟩
theorem Ok_other {B : Nat} {k : Bk} {w1 : World} {a : Addr} {v : Value} (h : Ok B k w1) (hne : a.block ≠ k.g) : Ok B k (w1.setCell a v) :=
  ⟨h.lo, by simpa using h.hi, fun o ho => by rw [World.cell?_setCell_other w1 a _ v (fun e => hne (by rw [e]))]; exact h.c o ho, fun o => by rw [World.frozen?_setCell]; exact h.f o⟩
theorem Ok_set {B i : Nat} {k : Bk} {w1 : World} {v : Value} (h : Ok B k w1) (hi : i < k.n) : Ok B ⟨k.g, k.n, updv k.F i v⟩ (w1.setCell ⟨k.g, i, none⟩ v) :=
  ⟨h.lo, by simpa using h.hi, fun o ho => by
    unfold updv
    by_cases e : o = i
    · subst e
      have := World.cell?_setCell_same w1 ⟨k.g, o, none⟩ v (h.c o hi)
      simpa using this
    · have := World.cell?_setCell_other w1 ⟨k.g, i, none⟩ ⟨k.g, o, none⟩ v (fun e' => e (by simpa using e'.symm))
      simp only [if_neg e]
      exact this.trans (h.c o ho), fun o => by rw [World.frozen?_setCell]; exact h.f o⟩
theorem Ok_ext {B : Nat} {k : Bk} {G : Nat → Value} {w1 : World} (h : Ok B k w1) (e : ∀ o, o < k.n → k.F o = G o) : Ok B ⟨k.g, k.n, G⟩ w1 :=
  ⟨h.lo, h.hi, fun o ho => (h.c o ho).trans (congrArg some (e o ho)), h.f⟩
theorem below {w : World} {L : List Bk} {w1 w2 : World} (h : Hd w L w1) (hb : Below w1.heap.size w1 w2) : Hd w L w2 :=
  ⟨h.bel.trans (hb.mono h.bel.size), fun k hk => Ok_below (h.ok k hk) hb⟩
theorem drew {w : World} {L : List Bk} {w1 : World} (h : Hd w L w1) : Hd w L w1.drew := below h (Below.refl _ _).drew
theorem al {w : World} {L : List Bk} {w1 : World} (h : Hd w L w1) (o : Obj) : Hd w L (w1.alloc o) := below h ((Below.refl _ _).alloc (Nat.le_refl _) o)
theorem start (w : World) : Hd w [] w := ⟨Below.refl _ _, fun _ h => by cases h⟩
theorem sub {w : World} {L M : List Bk} {w1 : World} (h : Hd w L w1) (hs : ∀ k, k ∈ M → k ∈ L) : Hd w M w1 := ⟨h.bel, fun k hk => h.ok k (hs k hk)⟩
theorem new4 {w : World} {L : List Bk} {w1 : World} {g n : Nat} {T : TypeId} (h : Hd w L w1) (hg : g = w1.heap.size) : Hd w (W4 g n :: L) (w1.alloc (.cells #[.int .u64 (dg n 0), .int .u64 (dg n 1), .int .u64 (dg n 2), .int .u64 (dg n 3)] T)) := by
  subst hg
  refine ⟨(al h _).bel, fun k hk => ?_⟩
  rcases List.mem_cons.1 hk with rfl | hk
  · have v := Vb_new4 w.heap.size n w1 T h.bel.size
    exact ⟨v.lo, v.hi, v.c, v.f⟩
  · exact (al h _).ok k hk
theorem new0 {w : World} {L : List Bk} {w1 : World} {g : Nat} {T : TypeId} (h : Hd w L w1) (hg : g = w1.heap.size) : Hd w (W4 g 0 :: L) (w1.alloc (.cells #[.int .u64 0, .int .u64 0, .int .u64 0, .int .u64 0] T)) := new4 (n := 0) h hg
/-- A cell of the first block is set. -/
theorem set {w : World} {g n : Nat} {F : Nat → Value} {L : List Bk} {w1 : World} {i : Nat} {v : Value} (h : Hd w (⟨g, n, F⟩ :: L) w1) (hi : i < n) (hne : ∀ b, b ∈ L → g ≠ b.g) : Hd w (⟨g, n, updv F i v⟩ :: L) (w1.setCell ⟨g, i, none⟩ v) := by
  have h0 := h.ok _ (List.mem_cons_self ..)
  refine ⟨h.bel.setCell h0.lo _, fun b hb => ?_⟩
  rcases List.mem_cons.1 hb with rfl | hb
  · exact Ok_set h0 hi
  · exact Ok_other (h.ok b (List.mem_cons_of_mem _ hb)) (hne b hb)
theorem ext {w : World} {k : Bk} {G : Nat → Value} {L : List Bk} {w1 : World} (h : Hd w (k :: L) w1) (e : ∀ o, o < k.n → k.F o = G o) : Hd w (⟨k.g, k.n, G⟩ :: L) w1 := by
  refine ⟨h.bel, fun b hb => ?_⟩
  rcases List.mem_cons.1 hb with rfl | hb
  · exact Ok_ext (h.ok k (List.mem_cons_self ..)) e
  · exact h.ok b (List.mem_cons_of_mem _ hb)
/-- A word is laid into the first block. -/
theorem set4 {w : World} {g m : Nat} {F : Nat → Value} {L : List Bk} {w1 : World} (h : Hd w (⟨g, 4, F⟩ :: L) w1) (hne : ∀ b, b ∈ L → g ≠ b.g) : Hd w (W4 g m :: L) ((((w1.setCell ⟨g, 0, none⟩ (.int .u64 (dg m 0))).setCell ⟨g, 1, none⟩ (.int .u64 (dg m 1))).setCell ⟨g, 2, none⟩ (.int .u64 (dg m 2))).setCell ⟨g, 3, none⟩ (.int .u64 (dg m 3))) := by
  have h1 := set (i := 0) (v := .int .u64 (dg m 0)) h (by decide) hne
  have h2 := set (i := 1) (v := .int .u64 (dg m 1)) h1 (by decide) hne
  have h3 := set (i := 2) (v := .int .u64 (dg m 2)) h2 (by decide) hne
  have h4 := set (i := 3) (v := .int .u64 (dg m 3)) h3 (by decide) hne
  refine ext h4 (fun o ho => ?_)
  have : o = 0 ∨ o = 1 ∨ o = 2 ∨ o = 3 := by have : o < 4 := ho; omega
  rcases this with rfl | rfl | rfl | rfl <;> rfl
end Hm
namespace RS
open RI
variable {P : Program} {ops : Array Oper} {Q : Exit → Act → World → Prop}
/-- S till operation k is done, T from then on; k comes last. -/
def Two (S T : World → Prop) (k : Nat) (d : Nat → Bool) (w : World) : Prop := (d k = false → S w) ∧ (d k = true → T w ∧ ∀ j, j < k → d j = true)
theorem two0 {S T : World → Prop} {k : Nat} {w : World} (h : S w) : Two S T k (fun _ => false) w := ⟨fun _ => h, fun h => by cases h⟩
theorem two_step {S T : World → Prop} {k i : Nat} {o : Oper} {a : Act} {v : Value} (hik : i < k)
    (h : ∀ (K : Value → World → Prop) w, S w → (∀ w', S w' → K v w') → upv P K ((execOp a.eval o).run P w)) : ∀ (K : Value → World → Prop) d w, Two S T k d w → may ops d i → (∀ w', Two S T k (don d i) w' → K v w') → upv P K ((execOp a.eval o).run P w) := by
  intro K d w hI hmay hK
  have hdk : d k = false := by
    cases hd : d k with
    | false => rfl
    | true => have := (hI.2 hd).2 i hik; rw [hmay.1] at this; cases this
  exact h K w (hI.1 hdk) (fun w' hS' => hK w' ⟨fun _ => hS', fun h => by rw [don_other _ _ _ (by omega), hdk] at h; cases h⟩)
theorem go2 {S T : World → Prop} {k : Nat} {E : Act → Prop} {i : Nat} {o : Oper} {r : List Oper} {a a' : Act} {v : Value} (hik : i < k) (hg : o.guard = none)
    (h : ∀ (K : Value → World → Prop) w, S w → (∀ w', S w' → K v w') → upv P K ((execOp a.eval o).run P w)) (he : a.put o.dst v = a')
    (hr : Seq P ops (Two S T k) E (i + 1) r a') : Seq P ops (Two S T k) E i (o :: r) a :=
  ⟨v, .inl ⟨by simp [Region.wanted, hg], two_step hik h⟩, he ▸ hr⟩
theorem go2g {S T : World → Prop} {k : Nat} {E : Act → Prop} {i : Nat} {o : Oper} {r : List Oper} {a a' : Act} {v : Value} (hik : i < k) (hg : Region.wanted o (yielded ops a.tmps) = true)
    (h : ∀ (K : Value → World → Prop) w, S w → (∀ w', S w' → K v w') → upv P K ((execOp a.eval o).run P w)) (he : a.put o.dst v = a')
    (hr : Seq P ops (Two S T k) E (i + 1) r a') : Seq P ops (Two S T k) E i (o :: r) a :=
  ⟨v, .inl ⟨hg, two_step hik h⟩, he ▸ hr⟩
theorem go2z {S T : World → Prop} {k : Nat} {E : Act → Prop} {i : Nat} {o : Oper} {r : List Oper} {a a' : Act} (hik : i < k) (hg : Region.wanted o (yielded ops a.tmps) = false) (he : a.put o.dst undef = a')
    (hr : Seq P ops (Two S T k) E (i + 1) r a') : Seq P ops (Two S T k) E i (o :: r) a := by
  refine ⟨undef, .inr ⟨hg, rfl, fun d w hI hmay => ?_⟩, he ▸ hr⟩
  have hdk : d k = false := by
    cases hd : d k with
    | false => rfl
    | true => have := (hI.2 hd).2 i hik; rw [hmay.1] at this; cases this
  exact And.intro (fun _ => hI.1 hdk) (fun h => by rw [don_other _ _ _ (by omega), hdk] at h; cases h)
/-- The last one leads from S to T. -/
theorem go2_last {S T : World → Prop} {k : Nat} {E : Act → Prop} {o : Oper} {a a' : Act} {v : Value} (hg : o.guard = none) (hb : ((List.range k).all fun j => bindsOn o j) = true) (hk : ops[k]? = some o)
    (h : ∀ (K : Value → World → Prop) w, S w → (∀ w', T w' → K v w') → upv P K ((execOp a.eval o).run P w)) (he : a.put o.dst v = a')
    (hr : E a') : Seq P ops (Two S T k) E k [o] a := by
  refine ⟨v, .inl ⟨by simp [Region.wanted, hg], fun K d w hI hmay hK => h K w (hI.1 hmay.1) (fun w' hT => hK w' (And.intro (fun h => by rw [don_same] at h; exact absurd h (by decide)) (fun _ => And.intro hT (fun j hj => ?_))))⟩, he ▸ hr⟩
  rw [don_other _ _ _ (by omega)]
  have h1 := List.all_eq_true.1 hb j (List.mem_range.2 hj)
  unfold bindsOn at h1
  rw [Array.any_eq_true'] at h1
  obtain ⟨e, e1, e2⟩ := h1
  rw [Bool.and_eq_true, beq_iff_eq] at e2
  have h2 := hmay.2 o hk
  rw [Array.all_eq_true_iff_forall_mem] at h2
  have h3 := h2 e e1
  rw [e2.1, e2.2] at h3
  simpa using h3
theorem wp_region_two {id : Nat} {a : Act} {w : World} (S T : World → Prop) (k : Nat) (hm : P.follows .mixedOrders = true) (hok : okOps ops = true) (hk : k < ops.size) (h0 : S w.drew)
    (hs : Seq P ops (Two S T k) (fun a' => ∀ w', T w' → Q .normal a' w') 0 ops.toList a) : (Code.region id ops true).wp P Q a w := by
  refine wp_region_seq (Two S T k) hm hok (two0 h0) ?_
  have : ∀ l i a, Seq P ops (Two S T k) (fun a' => ∀ w', T w' → Q .normal a' w') i l a → Seq P ops (Two S T k) (fun a' => ∀ d w', Two S T k d w' → (∀ i, i < ops.size → d i = true) → Q .normal a' w') i l a := by
    intro l
    induction l with
    | nil => intro i a h d w' hI hall; exact h w' (hI.2 (hall k hk)).1
    | cons o r ih => intro i a h; obtain ⟨v, h1, h2⟩ := h; exact ⟨v, h1, ih _ _ h2⟩
  exact this _ _ _ hs
theorem wp_region_one {id : Nat} {a : Act} {w : World} (S : World → Prop) (hm : P.follows .mixedOrders = true) (hok : okOps ops = true) (h0 : S w.drew)
    (hs : Seq P ops (fun _ => S) (fun a' => ∀ w', S w' → Q .normal a' w') 0 ops.toList a) : (Code.region id ops true).wp P Q a w := by
  refine wp_region_seq (fun _ => S) hm hok h0 ?_
  have : ∀ l i a, Seq P ops (fun _ => S) (fun a' => ∀ w', S w' → Q .normal a' w') i l a → Seq P ops (fun _ => S) (fun a' => ∀ (d : Nat → Bool) w', S w' → (∀ i, i < ops.size → d i = true) → Q .normal a' w') i l a := by
    intro l
    induction l with
    | nil => intro i a h d w' hI _; exact h w' hI
    | cons o r ih => intro i a h; obtain ⟨v, h1, h2⟩ := h; exact ⟨v, h1, ih _ _ h2⟩
  exact this _ _ _ hs
end RS
end Go.Proofs.YtlpdendoibdceaaDoor
/- Two arrays of numbers are equal where their numbers are. -/
namespace Go.Proofs.YtlpdendoibdceaaDoor
namespace Sp
open Go.RowKit
/-- The first n numbers are the same. -/
def same (n : Nat) (F G : Nat → Int) : Bool := (List.range n).all fun i => F i == G i
theorem same_iff (n : Nat) (F G : Nat → Int) : same n F G = true ↔ ∀ i, i < n → F i = G i := by simp [same]
theorem same_self (n : Nat) (F : Nat → Int) : same n F F = true := (same_iff n F F).2 fun _ _ => rfl
theorem eqItems_ints (d : Nat) (e : TypeId) (k : IntKind) (he : Tryd.prog.underlying e = some (.int k)) (hk : Tryd.prog.plainKey e = true) (xs ys : Array Value) (F G : Nat → Int) (w : World) :
    ∀ is : List Nat, (∀ i ∈ is, xs[i]? = some (.int k (F i)) ∧ ys[i]? = some (.int k (G i))) → (Op.eqItems (d + 1) e 1 xs ys is).run Tryd.prog w = .ok (is.all fun i => F i == G i) w
  | [], _ => by simp [Op.eqItems]
  | i :: is, h => by
    obtain ⟨h1, h2⟩ := h i (by simp)
    have p1 := run_part_plain (P := Tryd.prog) w hk (off := i * 1) (xs := xs) (by rw [Nat.mul_one]; exact h1)
    have p2 := run_part_plain (P := Tryd.prog) w hk (off := i * 1) (xs := ys) (by rw [Nat.mul_one]; exact h2)
    have p3 : (Op.equalIn (d + 1) e (.int k (F i)) (.int k (G i))).run Tryd.prog w = .ok (F i == G i) w := by simp [Op.equalIn, run_underlying he]
    have ih := eqItems_ints d e k he hk xs ys F G w is (fun j hj => h j (by simp [hj]))
    simp only [Op.eqItems, Sem.run_bind, p1, p2, p3, Result.andThen_ok]
    by_cases c : F i = G i
    · simp [c, ih]
    · simp [c]
theorem eql_array (T e : TypeId) (n : Nat) (k : IntKind) (hT : Tryd.prog.underlying T = some (.array n e)) (he : Tryd.prog.underlying e = some (.int k)) (hk : Tryd.prog.plainKey e = true) (hc : Tryd.prog.cellsOf e = 1) (hi : (Tryd.prog.info? e).isSome = true)
    (xs ys : Array Value) (F G : Nat → Int) (w : World) (hx : ∀ i, i < n → xs[i]? = some (.int k (F i)) ∧ ys[i]? = some (.int k (G i))) :
    (binOp .eql T (.agg xs) (.agg ys)).run Tryd.prog w = .ok (.bool (same n F G)) w := by
  obtain ⟨i, hi⟩ := Option.isSome_iff_exists.1 hi
  rw [run_eql_struct, run_equalIn_array w 9999 _ _ hT hi, hc, eqItems_ints 9998 e k he hk xs ys F G w (List.range n) (fun j hj => hx j (List.mem_range.1 hj))]
  rfl
theorem neq_array (T e : TypeId) (n : Nat) (k : IntKind) (hT : Tryd.prog.underlying T = some (.array n e)) (he : Tryd.prog.underlying e = some (.int k)) (hk : Tryd.prog.plainKey e = true) (hc : Tryd.prog.cellsOf e = 1) (hi : (Tryd.prog.info? e).isSome = true)
    (xs ys : Array Value) (F G : Nat → Int) (w : World) (hx : ∀ i, i < n → xs[i]? = some (.int k (F i)) ∧ ys[i]? = some (.int k (G i))) :
    (binOp .neq T (.agg xs) (.agg ys)).run Tryd.prog w = .ok (.bool (!same n F G)) w := by
  obtain ⟨i, hi⟩ := Option.isSome_iff_exists.1 hi
  rw [run_neq_struct, run_equalIn_array w 9999 _ _ hT hi, hc, eqItems_ints 9998 e k he hk xs ys F G w (List.range n) (fun j hj => hx j (List.mem_range.1 hj))]
  rfl
theorem eqGuardHash : Tryd.prog.eqGuardType Tryd.prog.depth 44 = false := by kernel_rfl
theorem eq_guard32 (op : BinOp) (x y : Operand) (F G : Nat → Int) (w : World) : (eqGuard op 44 x y (Hv F) (Hv G)).run Tryd.prog w = .ok () w := by
  unfold Hv
  exact run_eqGuard_agg w op _ x y _ _ eqGuardHash
theorem eq32 (F G : Nat → Int) (w : World) : (binOp .eql 44 (Hv F) (Hv G)).run Tryd.prog w = .ok (.bool (same 32 F G)) w :=
  eql_array 44 5 32 .u8 Tryd.underlying44 Tryd.underlying5 (by kernel_rfl) (by kernel_rfl) (by kernel_rfl) (h32 F).toArray (h32 G).toArray F G w (fun i hi => by
    rw [List.getElem?_toArray, List.getElem?_toArray]; exact ⟨h32_get F i hi, h32_get G i hi⟩)
theorem neq32 (F G : Nat → Int) (w : World) : (binOp .neq 44 (Hv F) (Hv G)).run Tryd.prog w = .ok (.bool (!same 32 F G)) w :=
  neq_array 44 5 32 .u8 Tryd.underlying44 Tryd.underlying5 (by kernel_rfl) (by kernel_rfl) (by kernel_rfl) (h32 F).toArray (h32 G).toArray F G w (fun i hi => by
    rw [List.getElem?_toArray, List.getElem?_toArray]; exact ⟨h32_get F i hi, h32_get G i hi⟩)
theorem Sv_get (F : Nat → Int) (i : Nat) (hi : i < 8) : (#[Value.int .u64 (F 0), .int .u64 (F 1), .int .u64 (F 2), .int .u64 (F 3), .int .u64 (F 4), .int .u64 (F 5), .int .u64 (F 6), .int .u64 (F 7)] : Array Value)[i]? = some (.int .u64 (F i)) := by
  have : i = 0 ∨ i = 1 ∨ i = 2 ∨ i = 3 ∨ i = 4 ∨ i = 5 ∨ i = 6 ∨ i = 7 := by omega
  rcases this with rfl | rfl | rfl | rfl | rfl | rfl | rfl | rfl <;> rfl
theorem eq32_self (F : Nat → Int) (w : World) : (binOp .eql 44 (Hv F) (Hv F)).run Tryd.prog w = .ok (.bool true) w := by
  rw [eq32, same_self]
end Sp
end Go.Proofs.YtlpdendoibdceaaDoor
/- Words within a region: loaded, laid, held against each other. -/
namespace Go.Proofs.YtlpdendoibdceaaDoor
namespace RW
open Go.RowKit Go.Shelf
theorem ld {K : Value → World → Prop} {a : Act} {o : Oper} {s g x : Nat} {w : World} (ho : o.op = .load 24 (.tmp s)) (ha : a.eval (.tmp s) = .pointer (some ⟨g, 0, none⟩))
    (hc : ∀ j, j < 4 → w.cell? ⟨g, j, none⟩ = some (.int .u64 (dg x j))) (hK : K (Wd x) w) : RS.upv Tryd.prog K ((execOp a.eval o).run Tryd.prog w) := by
  obtain ⟨dst, op, ty, pos, after, guard⟩ := o
  simp only at ho
  subst ho
  generalize a.eval = ρ at *
  unfold Wd at hK
  go_simp
  exact hK
theorem wd_arr (x : Nat) (i : Nat) (hi : i < 4) : (#[.int .u64 (dg x 0), .int .u64 (dg x 1), .int .u64 (dg x 2), .int .u64 (dg x 3)] : Array Value)[i]? = some (.int .u64 (dg x i)) := by
  have : i = 0 ∨ i = 1 ∨ i = 2 ∨ i = 3 := by omega
  rcases this with rfl | rfl | rfl | rfl <;> rfl
theorem dg_inj (x y : Nat) : (∀ i, i < 4 → dg x i = dg y i) ↔ x % 2 ^ 256 = y % 2 ^ 256 := by
  constructor
  · intro h
    have h0 := h 0 (by decide)
    have h1 := h 1 (by decide)
    have h2 := h 2 (by decide)
    have h3 := h 3 (by decide)
    unfold dg at h0 h1 h2 h3
    omega
  · intro h i hi
    have : i = 0 ∨ i = 1 ∨ i = 2 ∨ i = 3 := by omega
    unfold dg
    rcases this with rfl | rfl | rfl | rfl <;> omega
theorem eqw (x y : Nat) (w : World) : (binOp .eql 24 (Wd x) (Wd y)).run Tryd.prog w = .ok (.bool (decide (x % 2 ^ 256 = y % 2 ^ 256))) w := by
  unfold Wd
  rw [Sp.eql_array 24 22 4 .u64 (by kernel_rfl) (by kernel_rfl) (by kernel_rfl) (by kernel_rfl) (by kernel_rfl) _ _ (dg x) (dg y) w (fun i hi => ⟨wd_arr x i hi, wd_arr y i hi⟩)]
  congr 2
  rw [Bool.eq_iff_iff, Sp.same_iff, dg_inj, decide_eq_true_iff]
theorem neqw (x y : Nat) (w : World) : (binOp .neq 24 (Wd x) (Wd y)).run Tryd.prog w = .ok (.bool (!decide (x % 2 ^ 256 = y % 2 ^ 256))) w := by
  have h := eqw x y w
  unfold Wd at *
  rw [Sp.neq_array 24 22 4 .u64 (by kernel_rfl) (by kernel_rfl) (by kernel_rfl) (by kernel_rfl) (by kernel_rfl) _ _ (dg x) (dg y) w (fun i hi => ⟨wd_arr x i hi, wd_arr y i hi⟩)]
  congr 3
  rw [Bool.eq_iff_iff, Sp.same_iff, dg_inj, decide_eq_true_iff]
theorem eq {K : Value → World → Prop} {a : Act} {o : Oper} {X Y : Operand} {x y : Nat} {b : Bool} {w : World} (ho : o.op = .binOp .eql 24 X Y 24) (hx : a.eval X = Wd x) (hy : a.eval Y = Wd y)
    (hb : decide (x % 2 ^ 256 = y % 2 ^ 256) = b) (hK : K (.bool b) w) : RS.upv Tryd.prog K ((execOp a.eval o).run Tryd.prog w) := by
  obtain ⟨dst, op, ty, pos, after, guard⟩ := o
  simp only at ho
  subst ho
  generalize a.eval = ρ at *
  have e1 := eqw x y w
  rw [hb] at e1
  have g1 := eq_guard .eql X Y x y w
  go_simp
  exact hK
theorem neq {K : Value → World → Prop} {a : Act} {o : Oper} {X Y : Operand} {x y : Nat} {b : Bool} {w : World} (ho : o.op = .binOp .neq 24 X Y 24) (hx : a.eval X = Wd x) (hy : a.eval Y = Wd y)
    (hb : (!decide (x % 2 ^ 256 = y % 2 ^ 256)) = b) (hK : K (.bool b) w) : RS.upv Tryd.prog K ((execOp a.eval o).run Tryd.prog w) := by
  obtain ⟨dst, op, ty, pos, after, guard⟩ := o
  simp only at ho
  subst ho
  generalize a.eval = ρ at *
  have e1 := neqw x y w
  rw [hb] at e1
  have g1 := eq_guard .neq X Y x y w
  go_simp
  exact hK
theorem st {K : Value → World → Prop} {a : Act} {o : Oper} {s : Nat} {V : Operand} {g x : Nat} {F : Nat → Value} {w : World} (ho : o.op = .store 24 (.tmp s) V) (ha : a.eval (.tmp s) = .pointer (some ⟨g, 0, none⟩)) (hv : a.eval V = Wd x)
    (hc : ∀ j, j < 4 → w.cell? ⟨g, j, none⟩ = some (F j)) (hf : ∀ j, w.frozen? ⟨g, j, none⟩ = false)
    (hK : K undef ((((w.setCell ⟨g, 0, none⟩ (.int .u64 (dg x 0))).setCell ⟨g, 1, none⟩ (.int .u64 (dg x 1))).setCell ⟨g, 2, none⟩ (.int .u64 (dg x 2))).setCell ⟨g, 3, none⟩ (.int .u64 (dg x 3)))) : RS.upv Tryd.prog K ((execOp a.eval o).run Tryd.prog w) := by
  obtain ⟨dst, op, ty, pos, after, guard⟩ := o
  simp only at ho
  subst ho
  generalize a.eval = ρ at *
  unfold Wd at hv
  go_simp
  exact hK
end RW
end Go.Proofs.YtlpdendoibdceaaDoor
/- Slices that read as bytes; hex.Parse and Print over them; lampbearerkeep.alive4. -/
namespace Go.Proofs.YtlpdendoibdceaaDoor
open Go.RowKit
/-- A slice of bytes that reads as b. -/
def Sl (b : List UInt8) (v : Value) (w : World) : Prop := ∃ (ao : Option Addr) (cap : Nat), v = .slice ao b.length cap ∧ b.length ≤ cap ∧ Sp.Vw b ao w
theorem Sl_below {b : List UInt8} {v : Value} {w w' : World} (h : Sl b v w) (hb : Below w.heap.size w w') : Sl b v w' := by
  obtain ⟨ao, cap, h1, h2, h3⟩ := h
  exact ⟨ao, cap, h1, h2, Sp.Vw_below h3 hb⟩
theorem Sl_conv {b : List UInt8} {v : Value} {w : World} (h : Sl b v w) : (convert 30 9 v).run Tryd.prog w = .ok (.string ⟨b.toArray⟩) w := by
  obtain ⟨ao, cap, rfl, h2, h3⟩ := h
  by_cases h0 : 0 < b.length
  · obtain ⟨g, off, rfl, hg, hc⟩ := h3 h0
    exact run_convert_bytes_back (P := Tryd.prog) w 30 9 5 ⟨g, off, none⟩ cap b Tryd.underlying30 Tryd.underlying5 Tryd.underlying9 (fun j hj => by
      have ea : (⟨g, off, none⟩ : Addr).add j = ⟨g, off + j, none⟩ := by unfold Addr.add; split <;> simp_all
      rw [ea, hc j hj]
      simp [Sp.bz, hj])
  · have e : b = [] := List.length_eq_zero_iff.1 (by omega)
    subst e
    rw [run_convert_bytes_string w 30 9 5 ao _ cap Tryd.underlying30 Tryd.underlying5 Tryd.underlying9]
    cases ao <;> rfl
/-- What hex.Print writes of b. -/
def px (b : List UInt8) : List UInt8 := 48 :: 120 :: hexs (fun j => (Sp.bz b j).toNat) b.length
theorem print_sl {b : List UInt8} {v : Value} {w : World} (hn : Hid (b.length ≤ 1048576)) (h : Sl b v w) : Calls Tryd.prog 14 #[v] w fun e w' => e = .returned (.string ⟨(px b).toArray⟩) ∧ Below w.heap.size w w' := by
  obtain ⟨ao, cap, rfl, h2, h3⟩ := h
  by_cases h0 : b.length = 0
  · have e : b = [] := List.length_eq_zero_iff.1 h0
    subst e
    exact print_none ao cap w
  · obtain ⟨g, off, rfl, hg, hc⟩ := h3 (by omega)
    have hf : ∀ j, (Sp.bz b j).toNat < 256 := fun j => by have := Sp.bz_lt b j; omega
    have hcs : ∀ j, ((Sp.bz b j).toNat : Int) = Sp.bz b j := fun j => Int.toNat_of_nonneg (Sp.bz_nn b j)
    exact print_any _ hf b.length g off cap hn h2 w hg (fun j hj => by rw [hcs]; exact hc j hj)
/-- A string that is the form of some bytes. -/
def Ps (l : List UInt8) : Prop := l.take 2 = [48, 120] ∧ l.length % 2 = 0 ∧ Gd l ((l.length - 2) / 2)
theorem Sl_row {base : Nat} {l : List UInt8} {m : Nat} {v : Value} {w : World} (h : w.ownsRow base 5 1 v m (bxs l m)) (hG : Gd l m) : Sl (bl l m) v w := by
  rcases h.2 with ⟨h3, h4⟩ | ⟨g, cap, cur, h3, h5⟩
  · subst h4
    exact ⟨none, 0, h3, Nat.le_refl _, Sp.Vw_nil _ _⟩
  · subst h3
    refine ⟨some ⟨g, 0, none⟩, cap, by rw [bl_length], by rw [bl_length]; exact h5.2.2.1, fun _ => ⟨g, 0, rfl, lt_of_heap h5.2.1, fun j hj => ?_⟩⟩
    rw [bl_length] at hj
    rw [Nat.zero_add, h.cellAt j (by omega)]
    have e := bx_at l m j hG hj
    have e2 : Sp.bz (bl l m) j = bx l j := by
      rw [← e]
      simp [Sp.bz, bl, hj]
    rw [e2]
    simp [bxs, hj]
theorem parse_sl (l : List UInt8) (hn : Hid (l.length ≤ 2097154)) (w : World) : Calls Tryd.prog 13 #[.string ⟨l.toArray⟩] w fun e w' => ∃ (v : Value) (c : Int) (b : List UInt8), e = .returned (.tuple #[v, .int .i64 c]) ∧ Sl b v w' ∧ ((Ps l ∧ c = 0 ∧ b = bl l ((l.length - 2) / 2)) ∨ (¬ Ps l ∧ c = 1 ∧ b = [])) ∧ Below w.heap.size w w' := by
  have hnil : ∀ w, Sl [] (.slice none 0 0) w := fun w => ⟨none, 0, rfl, Nat.le_refl _, Sp.Vw_nil _ _⟩
  by_cases hb : l.length < 2 ∨ l.take 2 ≠ [48, 120] ∨ l.length % 2 = 1
  · refine (parse_form l hb w).mono fun e w' he => ⟨_, 1, [], he.1, hnil _, .inr ⟨fun h => ?_, rfl, rfl⟩, by rw [he.2]; exact Below.refl _ _⟩
    have h2 : 2 ≤ l.length := by have := congrArg List.length h.1; simp at this; omega
    rcases hb with h1 | h1 | h1
    · omega
    · exact h1 h.1
    · have := h.2.1; omega
  · have hp : l.take 2 = [48, 120] := by
      by_cases h : l.take 2 = [48, 120]
      · exact h
      · exact absurd (.inr (.inl h)) hb
    obtain ⟨m, hm⟩ : ∃ m, l.length = 2 + 2 * m := ⟨(l.length - 2) / 2, by omega⟩
    have em : (l.length - 2) / 2 = m := by omega
    refine (parse_any2 l m hm hp hn w).mono fun e w' he => ?_
    unfold Ps
    rw [em]
    obtain ⟨⟨hG, v, rfl, ho⟩ | ⟨hG, rfl⟩, hbel⟩ := he
    · exact ⟨v, 0, _, rfl, Sl_row ho hG, .inl ⟨⟨hp, by omega, hG⟩, rfl, rfl⟩, hbel⟩
    · exact ⟨_, 1, [], rfl, hnil _, .inr ⟨fun h => hG h.2.2, rfl, rfl⟩, hbel⟩
instance (l : List UInt8) (m : Nat) : Decidable (Gd l m) := by unfold Gd; infer_instance
instance (l : List UInt8) : Decidable (Ps l) := by unfold Ps; infer_instance
theorem ps_al : Ps [48, 120, 48, 97, 102, 102] := by decide +kernel
theorem bl_al : bl [48, 120, 48, 97, 102, 102] 2 = [10, 255] := by decide +kernel
theorem px_al : px [10, 255] = [48, 120, 48, 97, 102, 102] := by decide +kernel
theorem nw_al : nw 31 = [49, 102] := by decide +kernel
theorem hv_al : hv 0 [49, 102] = 31 := by decide +kernel
theorem cn_al : Cn [49, 102] := by rw [← nw_al]; exact nw_cn 31
def SA (w : World) (g : Nat) (v : Value) (wx : World) : Prop := Hm.Hd w [Hm.W4 g 31] wx ∧ Sl [10, 255] v wx
theorem SA_below {w : World} {g : Nat} {v : Value} {w1 w2 : World} (h : SA w g v w1) (hb : Below w1.heap.size w1 w2) : SA w g v w2 := ⟨Hm.below h.1 hb, Sl_below h.2 hb⟩
theorem SA_drew {w : World} {g : Nat} {v : Value} {w1 : World} (h : SA w g v w1) : SA w g v w1.drew := SA_below h (Below.refl _ _).drew
set_option maxHeartbeats 400000 in
set_option maxRecDepth 100000 in
theorem alive4_any (w : World) : Calls Tryd.prog 12 #[] w fun e w' => e = .returned (.bool true) ∧ Below w.heap.size w w' := by
  have KA : Hid (∀ w : World, Calls Tryd.prog 13 #[.string ⟨#[48, 120, 48, 97, 102, 102]⟩] w fun e w' => ∃ v, e = .returned (.tuple #[v, .int .i64 0]) ∧ Sl [10, 255] v w' ∧ Below w.heap.size w w') := fun w => (parse_sl [48, 120, 48, 97, 102, 102] (by show 6 ≤ 2097154; decide) w).mono fun e w' he => by
    obtain ⟨v, c, b, he, hs, ⟨_, hc, hb⟩ | ⟨hp, _⟩, hB⟩ := he
    · subst hc hb he
      exact ⟨v, rfl, (show bl [48, 120, 48, 97, 102, 102] ((([48, 120, 48, 97, 102, 102] : List UInt8).length - 2) / 2) = _ from bl_al) ▸ hs, hB⟩
    · exact absurd ps_al hp
  have KB : Hid (∀ w : World, Calls Tryd.prog 8 #[.string ⟨#[48, 120, 49, 102]⟩] w fun e w' => e = .returned (.tuple #[Wd 31, .int .i64 0]) ∧ Below w.heap.size w w') := fun w => (pnum_any [48, 120, 49, 102] w).mono fun e w' he => by
    obtain ⟨c, n, he, ⟨_, hc, hn⟩ | ⟨hp, _⟩, hB⟩ := he
    · subst hc he
      rw [show n = 31 from hn.trans hv_al]
      exact ⟨rfl, hB⟩
    · exact absurd ⟨rfl, by decide, cn_al⟩ hp
  have KI : Hid (∀ w : World, Calls Tryd.prog 27 #[.int .u64 31] w fun e w' => e = .returned (Wd 31) ∧ Below w.heap.size w w') := fun w => int_any 31 (by decide) w
  have KN : Hid (∀ w : World, Calls Tryd.prog 10 #[Wd 31] w fun e w' => e = .returned (.string ⟨#[48, 120, 49, 102]⟩) ∧ Below w.heap.size w w') := fun w => by
    have k := number_any 31 w
    rw [nw_al] at k
    exact k
  have KP : Hid (∀ w : World, ∀ {v : Value}, Sl [10, 255] v w → Calls Tryd.prog 14 #[v] w fun e w' => e = .returned (.string ⟨#[48, 120, 48, 97, 102, 102]⟩) ∧ Below w.heap.size w w') := fun w v h => by
    have k := print_sl (by show 2 ≤ 1048576; decide) h
    rw [px_al] at k
    exact k
  have m0 := Hm.start w
  go_enter Tryd.func12, Tryd.ntmps12
  go_wp2_with fail
  refine (KA.out _).mono ?_
  rintro e w1 ⟨v, rfl, hs, hb⟩
  have m1 := Hm.below m0 hb
  clear hb m0
  go_wp2_with fail
  refine (KB.out _).mono ?_
  rintro e w2 ⟨rfl, hb⟩
  have m2 : SA w w2.heap.size v (w2.alloc (.cells #[.int .u64 (dg 31 0), .int .u64 (dg 31 1), .int .u64 (dg 31 2), .int .u64 (dg 31 3)] 24)) := ⟨Hm.new4 (g := w2.heap.size) (n := 31) (T := 24) (Hm.below m1 hb) rfl, Sl_below (Sl_below hs hb) ((Below.refl _ _).alloc (Nat.le_refl _) _)⟩
  clear hb m1 hs
  unfold Wd
  go_upto_region 3 with fail
  generalize w2.alloc (.cells #[.int .u64 (dg 31 0), .int .u64 (dg 31 1), .int .u64 (dg 31 2), .int .u64 (dg 31 3)] 24) = W2 at m2 ⊢
  generalize w2.heap.size = g at *
  refine RS.wp_region_one (SA w g v) (by kernel_rfl) (by kernel_rfl) (SA_drew m2) ?_
  dsimp only [List.toList_toArray]
  refine RS.go1 (v := ?_) (a' := ?_) rfl ?_ ?_ ?_
  rotate_left 2
  · intro K wx hS hK
    go_simp
    exact hK _ hS
  · simp only [Act.put, List.setIfInBounds_toArray, List.set_cons_succ, List.set_cons_zero]
    rfl
  refine RS.go1 (v := ?_) (a' := ?_) rfl ?_ ?_ ?_
  rotate_left 2
  · intro K wx hS hK
    go_simp
    exact hK _ hS
  · simp only [Act.put, List.setIfInBounds_toArray, List.set_cons_succ, List.set_cons_zero]
    rfl
  refine RS.go1 (v := ?_) (a' := ?_) rfl ?_ ?_ ?_
  rotate_left 2
  · intro K wx hS hK
    go_simp
    exact hK _ hS
  · simp only [Act.put, List.setIfInBounds_toArray, List.set_cons_succ, List.set_cons_zero]
    rfl
  refine RS.go1g (v := ?_) (a' := ?_) (by kernel_rfl) ?_ ?_ ?_
  rotate_left 2
  · intro K wx hS hK
    go_simp
    exact hK _ hS
  · simp only [Act.put, List.setIfInBounds_toArray, List.set_cons_succ, List.set_cons_zero]
    rfl
  refine RS.go1g (v := ?_) (a' := ?_) (by kernel_rfl) ?_ ?_ ?_
  rotate_left 2
  · intro K wx hS hK
    go_simp
    exact hK _ hS
  · simp only [Act.put, List.setIfInBounds_toArray, List.set_cons_succ, List.set_cons_zero]
    rfl
  refine RS.go1 (v := ?_) (a' := ?_) rfl ?_ ?_ ?_
  rotate_left 2
  · intro K wx hS hK
    go_simp
    exact hK _ hS
  · simp only [Act.put, List.setIfInBounds_toArray, List.set_cons_succ, List.set_cons_zero]
    rfl
  refine RS.go1 (v := ?_) (a' := ?_) rfl ?_ ?_ ?_
  rotate_left 2
  · intro K wx hS hK
    go_simp
    exact hK _ hS
  · simp only [Act.put, List.setIfInBounds_toArray, List.set_cons_succ, List.set_cons_zero]
    rfl
  refine RS.go1g (v := ?_) (a' := ?_) (by kernel_rfl) ?_ ?_ ?_
  rotate_left 2
  · intro K wx hS hK
    go_simp
    exact hK _ hS
  · simp only [Act.put, List.setIfInBounds_toArray, List.set_cons_succ, List.set_cons_zero]
    rfl
  refine RS.go1g (v := ?_) (a' := ?_) (by kernel_rfl) ?_ ?_ ?_
  rotate_left 2
  · intro K wx hS hK
    have hcv := Sl_conv hS.2
    go_simp
    exact hK _ hS
  · simp only [Act.put, List.setIfInBounds_toArray, List.set_cons_succ, List.set_cons_zero]
    rfl
  refine RS.go1g (v := ?_) (a' := ?_) (by kernel_rfl) ?_ ?_ ?_
  rotate_left 2
  · intro K wx hS hK
    go_simp
    exact hK _ hS
  · simp only [Act.put, List.setIfInBounds_toArray, List.set_cons_succ, List.set_cons_zero]
    rfl
  refine RS.go1 (v := ?_) (a' := ?_) rfl ?_ ?_ ?_
  rotate_left 2
  · intro K wx hS hK
    go_simp
    exact hK _ hS
  · simp only [Act.put, List.setIfInBounds_toArray, List.set_cons_succ, List.set_cons_zero]
    rfl
  refine RS.go1 (v := ?_) (a' := ?_) rfl ?_ ?_ ?_
  rotate_left 2
  · intro K wx hS hK
    go_simp
    exact hK _ hS
  · simp only [Act.put, List.setIfInBounds_toArray, List.set_cons_succ, List.set_cons_zero]
    rfl
  refine RS.go1g (v := ?_) (a' := ?_) (by kernel_rfl) ?_ ?_ ?_
  rotate_left 2
  · intro K wx hS hK
    refine RW.ld rfl rfl (hS.1.ok (Hm.W4 g 31) (by simp)).c ?_
    exact hK _ hS
  · simp only [Act.put, List.setIfInBounds_toArray, List.set_cons_succ, List.set_cons_zero]
    rfl
  refine RS.go1g (v := ?_) (a' := ?_) (by kernel_rfl) ?_ ?_ ?_
  rotate_left 2
  · intro K wx hS hK
    go_simp
    refine (KI.out _).mono (fun e w2 he => ?_)
    refine ⟨_, he.1, ?_⟩
    exact hK _ (SA_below hS he.2)
  · simp only [Act.put, List.setIfInBounds_toArray, List.set_cons_succ, List.set_cons_zero]
    rfl
  refine RS.go1g (v := ?_) (a' := ?_) (by kernel_rfl) ?_ ?_ ?_
  rotate_left 2
  · intro K wx hS hK
    refine RW.eq (b := true) (x := 31) (y := 31) rfl rfl rfl (decide_eq_true rfl) ?_
    exact hK _ hS
  · simp only [Act.put, List.setIfInBounds_toArray, List.set_cons_succ, List.set_cons_zero]
    rfl
  refine RS.go1 (v := ?_) (a' := ?_) rfl ?_ ?_ ?_
  rotate_left 2
  · intro K wx hS hK
    go_simp
    exact hK _ hS
  · simp only [Act.put, List.setIfInBounds_toArray, List.set_cons_succ, List.set_cons_zero]
    rfl
  refine RS.go1 (v := ?_) (a' := ?_) rfl ?_ ?_ ?_
  rotate_left 2
  · intro K wx hS hK
    go_simp
    exact hK _ hS
  · simp only [Act.put, List.setIfInBounds_toArray, List.set_cons_succ, List.set_cons_zero]
    rfl
  refine RS.go1g (v := ?_) (a' := ?_) (by kernel_rfl) ?_ ?_ ?_
  rotate_left 2
  · intro K wx hS hK
    go_simp
    exact hK _ hS
  · simp only [Act.put, List.setIfInBounds_toArray, List.set_cons_succ, List.set_cons_zero]
    rfl
  refine RS.go1g (v := ?_) (a' := ?_) (by kernel_rfl) ?_ ?_ ?_
  rotate_left 2
  · intro K wx hS hK
    go_simp
    refine (KP.out _ hS.2).mono (fun e w2 he => ?_)
    refine ⟨_, he.1, ?_⟩
    exact hK _ (SA_below hS he.2)
  · simp only [Act.put, List.setIfInBounds_toArray, List.set_cons_succ, List.set_cons_zero]
    rfl
  refine RS.go1g (v := ?_) (a' := ?_) (by kernel_rfl) ?_ ?_ ?_
  rotate_left 2
  · intro K wx hS hK
    go_simp
    exact hK _ hS
  · simp only [Act.put, List.setIfInBounds_toArray, List.set_cons_succ, List.set_cons_zero]
    rfl
  refine RS.go1 (v := ?_) (a' := ?_) rfl ?_ ?_ ?_
  rotate_left 2
  · intro K wx hS hK
    go_simp
    exact hK _ hS
  · simp only [Act.put, List.setIfInBounds_toArray, List.set_cons_succ, List.set_cons_zero]
    rfl
  refine RS.go1 (v := ?_) (a' := ?_) rfl ?_ ?_ ?_
  rotate_left 2
  · intro K wx hS hK
    go_simp
    exact hK _ hS
  · simp only [Act.put, List.setIfInBounds_toArray, List.set_cons_succ, List.set_cons_zero]
    rfl
  refine RS.go1g (v := ?_) (a' := ?_) (by kernel_rfl) ?_ ?_ ?_
  rotate_left 2
  · intro K wx hS hK
    refine RW.ld rfl rfl (hS.1.ok (Hm.W4 g 31) (by simp)).c ?_
    exact hK _ hS
  · simp only [Act.put, List.setIfInBounds_toArray, List.set_cons_succ, List.set_cons_zero]
    rfl
  refine RS.go1g (v := ?_) (a' := ?_) (by kernel_rfl) ?_ ?_ ?_
  rotate_left 2
  · intro K wx hS hK
    go_simp
    refine (KN.out _).mono (fun e w2 he => ?_)
    refine ⟨_, he.1, ?_⟩
    exact hK _ (SA_below hS he.2)
  · simp only [Act.put, List.setIfInBounds_toArray, List.set_cons_succ, List.set_cons_zero]
    rfl
  refine RS.go1g (v := ?_) (a' := ?_) (by kernel_rfl) ?_ ?_ ?_
  rotate_left 2
  · intro K wx hS hK
    go_simp
    exact hK _ hS
  · simp only [Act.put, List.setIfInBounds_toArray, List.set_cons_succ, List.set_cons_zero]
    rfl
  refine RS.go1 (v := ?_) (a' := ?_) rfl ?_ ?_ ?_
  rotate_left 2
  · intro K wx hS hK
    go_simp
    exact hK _ hS
  · simp only [Act.put, List.setIfInBounds_toArray, List.set_cons_succ, List.set_cons_zero]
    rfl
  refine RS.go1 (v := ?_) (a' := ?_) rfl ?_ ?_ ?_
  rotate_left 2
  · intro K wx hS hK
    go_simp
    exact hK _ hS
  · simp only [Act.put, List.setIfInBounds_toArray, List.set_cons_zero]
    rfl
  refine RS.go_end ?_
  intro w3 m3
  have HB : Hid (Below w.heap.size w w3) := m3.1.bel
  clear m2 m3
  go_wp2_with fail
  go_ret
  exact ⟨rfl, HB.out⟩
end Go.Proofs.YtlpdendoibdceaaDoor
/- word.Cmp: the order of words, part by part from the greatest on. -/
namespace Go.Proofs.YtlpdendoibdceaaDoor
open Go.RowKit Go.Shelf
attribute [local go_sem ↓] Go.wp_at_zero Go.wp_at_succ
/-- -1, 0 or 1. -/
def cm (x y : Int) : Int := if x < y then -1 else if y < x then 1 else 0
set_option maxHeartbeats 400000 in
theorem isnan_any (x : Int) (w : World) :
    Calls Tryd.prog 41 #[.int .u64 x] w fun e w' => e = .returned (.bool false) ∧ w' = w := by
  go_enter Tryd.func41, Tryd.ntmps41
  go_wp2
  go_ret
  simp
set_option maxHeartbeats 1000000 in
theorem compare_any (x y : Int) (w : World) :
    Calls Tryd.prog 28 #[.int .u64 x, .int .u64 y] w fun e w' => e = .returned (.int .i64 (cm x y)) ∧ w' = w := by
  by_cases h1 : x < y
  · have e : cm x y = -1 := by unfold cm; rw [if_pos h1]
    rw [e]
    clear e
    go_enter Tryd.func28, Tryd.ntmps28
    go_wp2_with fail
    refine (isnan_any x _).mono ?_
    rintro e1 w1 ⟨rfl, rfl⟩
    go_wp2_with fail
    refine (isnan_any y _).mono ?_
    rintro e2 w2 ⟨rfl, rfl⟩
    go_wp2_with fail
    go_ret
    exact ⟨rfl, rfl⟩
  · by_cases h2 : y < x
    · have e : cm x y = 1 := by unfold cm; rw [if_neg h1, if_pos h2]
      rw [e]
      clear e
      go_enter Tryd.func28, Tryd.ntmps28
      go_wp2_with fail
      refine (isnan_any x _).mono ?_
      rintro e1 w1 ⟨rfl, rfl⟩
      go_wp2_with fail
      refine (isnan_any y _).mono ?_
      rintro e2 w2 ⟨rfl, rfl⟩
      go_wp2_with fail
      go_ret
      exact ⟨rfl, rfl⟩
    · have e : cm x y = 0 := by unfold cm; rw [if_neg h1, if_neg h2]
      rw [e]
      clear e
      go_enter Tryd.func28, Tryd.ntmps28
      go_wp2_with fail
      refine (isnan_any x _).mono ?_
      rintro e1 w1 ⟨rfl, rfl⟩
      go_wp2_with fail
      refine (isnan_any y _).mono ?_
      rintro e2 w2 ⟨rfl, rfl⟩
      go_wp2_with fail
      go_ret
      exact ⟨rfl, rfl⟩
/-- Where the parts from i on are the same, part i - 1 may part them. -/
theorem cm_at (a b i : Nat) (h : a / 2 ^ (64 * (i + 1)) = b / 2 ^ (64 * (i + 1))) (hne : cm (dg a i) (dg b i) ≠ 0) : cm (dg a i) (dg b i) = cm (a : Int) (b : Int) := by
  have e1 : ∀ n : Nat, n / 2 ^ (64 * (i + 1)) = n / 2 ^ (64 * i) / 18446744073709551616 := fun n => by
    rw [Nat.div_div_eq_div_mul, show (18446744073709551616 : Nat) = 2 ^ 64 by decide, ← Nat.pow_add, Nat.mul_add]
  rw [e1, e1] at h
  have hp : 0 < 2 ^ (64 * i) := Nat.two_pow_pos _
  have k1 : a / 2 ^ (64 * i) < b / 2 ^ (64 * i) → a < b := fun k => by
    rcases Nat.lt_or_ge a b with h | h
    · exact h
    · exact absurd (Nat.div_le_div_right (c := 2 ^ (64 * i)) h) (by omega)
  have k2 : b / 2 ^ (64 * i) < a / 2 ^ (64 * i) → b < a := fun k => by
    rcases Nat.lt_or_ge b a with h | h
    · exact h
    · exact absurd (Nat.div_le_div_right (c := 2 ^ (64 * i)) h) (by omega)
  unfold cm dg at *
  generalize a / 2 ^ (64 * i) = A at *
  generalize b / 2 ^ (64 * i) = B at *
  by_cases c1 : A < B
  · have := k1 c1
    rw [if_pos (by omega), if_pos (by omega)]
  · by_cases c2 : B < A
    · have := k2 c2
      rw [if_neg (by omega), if_pos (by omega), if_neg (by omega), if_pos (by omega)]
    · exfalso
      rw [if_neg (by omega), if_neg (by omega)] at hne
      exact hne rfl
theorem cm_same (a b i : Nat) (h : a / 2 ^ (64 * (i + 1)) = b / 2 ^ (64 * (i + 1))) (he : cm (dg a i) (dg b i) = 0) : a / 2 ^ (64 * i) = b / 2 ^ (64 * i) := by
  have e1 : ∀ n : Nat, n / 2 ^ (64 * (i + 1)) = n / 2 ^ (64 * i) / 18446744073709551616 := fun n => by
    rw [Nat.div_div_eq_div_mul, show (18446744073709551616 : Nat) = 2 ^ 64 by decide, ← Nat.pow_add, Nat.mul_add]
  rw [e1, e1] at h
  unfold cm dg at he
  generalize a / 2 ^ (64 * i) = A at *
  generalize b / 2 ^ (64 * i) = B at *
  split at he
  · omega
  · split at he
    · omega
    · omega
set_option maxHeartbeats 2000000 in
set_option maxRecDepth 100000 in
theorem cmp_any (a b : Nat) (ha : a < 2 ^ 256) (hb : b < 2 ^ 256) (w : World) :
    Calls Tryd.prog 15 #[Wd a, Wd b] w fun e w' => e = .returned (.int .i64 (cm (a : Int) (b : Int))) ∧ Below w.heap.size w w' := by
  have h4 : a / 2 ^ (64 * 4) = b / 2 ^ (64 * 4) := by rw [Nat.div_eq_of_lt ha, Nat.div_eq_of_lt hb]
  clear ha hb
  have H4 : Hid (a / 2 ^ (64 * 4) = b / 2 ^ (64 * 4)) := h4
  clear h4
  conv => arg 3; unfold Wd
  go_enter Tryd.func15, Tryd.ntmps15
  go_wp2_with fail
  go_loopw [5] (fun iv wr => ∃ k : Nat, k ≤ 4 ∧ iv = .int .i64 ((k : Int) - 1) ∧ Hid (a / 2 ^ (64 * k) = b / 2 ^ (64 * k)) ∧ C4 w.heap.size a wr ∧ C4 (w.heap.size + 1) b wr ∧ Below w.heap.size w wr) (fun iv _ => (intOf iv + 1).toNat)
  case atStart =>
    refine ⟨4, by omega, rfl, H4, ?_, ?_, ?_⟩
    · intro o ho
      have : o = 0 ∨ o = 1 ∨ o = 2 ∨ o = 3 := by omega
      rcases this with rfl | rfl | rfl | rfl <;> simp [go_sem]
    · intro o ho
      have : o = 0 ∨ o = 1 ∨ o = 2 ∨ o = 3 := by omega
      rcases this with rfl | rfl | rfl | rfl <;> simp [go_sem]
    · exact ((Below.refl _ _).alloc (Nat.le_refl _) _).alloc (by simp) _
  case round =>
    clear H4
    obtain ⟨k, hk, hi, hs, cA, cB, bel⟩ := hrel
    cases k with
    | zero =>
      subst hi
      have e0 : cm (a : Int) (b : Int) = 0 := by
        have := hs.out
        simp at this
        subst this
        unfold cm
        rw [if_neg (Int.lt_irrefl _), if_neg (Int.lt_irrefl _)]
      have E0 : Hid (cm (a : Int) (b : Int) = 0) := e0
      clear e0 hs cA cB
      go_wp2_with fail
      go_ret
      exact ⟨by rw [E0.out]; rfl, bel⟩
    | succ j =>
      have e1 : ((j + 1 : Nat) : Int) - 1 = (j : Int) := by omega
      rw [e1] at hi
      subst hi
      clear e1
      have ca := cA j (by omega)
      have cb := cB j (by omega)
      have j4 : (j : Int) < 4 := by omega
      have cA' := C4_drew cA
      have cB' := C4_drew cB
      go_wp2_with fail
      go_region_with (first | (go_at_call 28; refine (compare_any (dg a j) (dg b j) _).mono ?_; rintro e1 w1 ⟨rfl, hw1⟩))
      all_goals
        subst hw1
        by_cases h0 : cm (dg a j) (dg b j) = 0
        · have hs' : Hid (a / 2 ^ (64 * j) = b / 2 ^ (64 * j)) := cm_same a b j hs.out h0
          rw [h0]
          clear hs h0
          go_wp2_with fail
          go_roundw
          case rel => exact ⟨j, by omega, by go_num, hs', cA', cB', bel.drew⟩
          case measure => simp [intOf]
        · have E1 : Hid (cm (dg a j) (dg b j) = cm (a : Int) (b : Int)) := cm_at a b j hs.out h0
          clear hs
          generalize cm (dg a j) (dg b j) = c at *
          go_wp2_with fail
          go_ret
          exact ⟨by rw [← E1.out]; rfl, bel.drew⟩
end Go.Proofs.YtlpdendoibdceaaDoor
/- A word that came in: its four parts make a number below 2^256. -/
namespace Go.Proofs.YtlpdendoibdceaaDoor
open Go.ChangeShapes Go.WideShapes Go.ChangeAt Go.RowKit Go.Joins
theorem Tryd.own : ownKnob Tryd.prog.godebug = none := by kernel_rfl
theorem Tryd.laidOut : laidOutB Tryd.prog = true := by kernel_rfl
theorem Tryd.cellsWord : Tryd.prog.cellsOf 24 = 4 := by kernel_rfl
theorem wd_parts (p q r s : Int) (hp : 0 ≤ p ∧ p < 18446744073709551616) (hq : 0 ≤ q ∧ q < 18446744073709551616) (hr : 0 ≤ r ∧ r < 18446744073709551616) (hs : 0 ≤ s ∧ s < 18446744073709551616) : ∃ n : Nat, n < 2 ^ 256 ∧ Value.agg #[.int .u64 p, .int .u64 q, .int .u64 r, .int .u64 s] = Wd n := by
  refine ⟨(p + q * 18446744073709551616 + r * 340282366920938463463374607431768211456 + s * 6277101735386680763835789423207666416102355444464034512896).toNat, by omega, wd_of ?_ ?_ ?_ ?_⟩
  · rw [dg0]; omega
  · rw [dg1]; omega
  · rw [dg2]; omega
  · rw [dg3]; omega
theorem okWide_array {P : Program} {w : World} {r : Reach} {base : Nat} {t e : TypeId} {n : Nat} {v : Value} (ht : P.underlying t = some (.array n e)) (h : Value.okWide P w r base t v) : ∃ cs, v = .agg cs ∧ cs.size = P.cellsOf t := by
  simp only [Value.okWide, ht] at h
  obtain ⟨cs, h1, h2, _⟩ := h
  exact ⟨cs, h1, h2⟩
theorem open_word {H : Type} {enc : TypeId × Value → H} {W : World} {r : Reach} {b0 base : Nat} {spare : Nat → Bool} {held : Bool} {v : Value} {d : DataW H} {p : List MemPlace}
    (hv : Value.okWide Tryd.prog W r b0 24 v) (h : DataW.Trod enc Tryd.prog W base spare held 24 v d p) : ∃ n : Nat, n < 2 ^ 256 ∧ v = Wd n := by
  obtain ⟨cs, rfl, hsz⟩ := okWide_array Tryd.underlying24 hv
  obtain ⟨c0, c1, c2, c3, rfl⟩ := array4 (hsz.trans Tryd.cellsWord)
  obtain ⟨fuel, hf⟩ := h
  obtain ⟨y0, y1, y2, y3, n, hx, h0, h1, h2, h3⟩ := trod_array4 Tryd.underlying24 Tryd.cellsU64 (by simpa [Value.cells] using hf)
  obtain ⟨a, e0, _, wa⟩ := DataW.trod_int Tryd.underlying22 h0
  obtain ⟨b, e1, _, wb⟩ := DataW.trod_int Tryd.underlying22 h1
  obtain ⟨c, e2, _, wc⟩ := DataW.trod_int Tryd.underlying22 h2
  obtain ⟨e, e3, _, we⟩ := DataW.trod_int Tryd.underlying22 h3
  simp at e0 e1 e2 e3
  subst e0 e1 e2 e3
  have ba := bounds_u64 wa
  have bb := bounds_u64 wb
  have bc := bounds_u64 wc
  have be := bounds_u64 we
  exact wd_parts a b c e (by omega) (by omega) (by omega) (by omega)
end Go.Proofs.YtlpdendoibdceaaDoor
/- What stands in memory during a law over words: the words handed in, in blocks of their own. -/
namespace Go.Proofs.YtlpdendoibdceaaDoor
open Go.RowKit Go.Shelf
structure S1 (w : World) (a : Nat) (wx : World) : Prop where
  hi : w.heap.size < wx.heap.size
  c0 : ∀ o, o < 4 → wx.cell? ⟨w.heap.size, o, none⟩ = some (.int .u64 (dg a o))
  bel : Below w.heap.size w wx
theorem S1_below {w : World} {a : Nat} {w1 w2 : World} (h : S1 w a w1) (k : Below w1.heap.size w1 w2) : S1 w a w2 := by
  have hi := h.hi
  have := k.size
  exact ⟨by omega, C4_below h.c0 k (by omega), h.bel.trans (k.mono (by omega))⟩
theorem S1_drew {w : World} {a : Nat} {w1 : World} (h : S1 w a w1) : S1 w a w1.drew := ⟨h.hi, h.c0, h.bel.drew⟩
theorem S1_start (w : World) (a : Nat) : S1 w a (w.alloc (.cells #[.int .u64 (dg a 0), .int .u64 (dg a 1), .int .u64 (dg a 2), .int .u64 (dg a 3)] 24)) := by
  refine ⟨by simp, fun o ho => ?_, ?_⟩
  · have : o = 0 ∨ o = 1 ∨ o = 2 ∨ o = 3 := by omega
    rcases this with rfl | rfl | rfl | rfl <;> simp [go_sem]
  · repeat (first | exact Below.refl _ _ | refine Below.alloc ?_ (by simp <;> omega) _)
structure S2 (w : World) (a b : Nat) (wx : World) : Prop where
  hi : w.heap.size + 1 < wx.heap.size
  c0 : ∀ o, o < 4 → wx.cell? ⟨w.heap.size, o, none⟩ = some (.int .u64 (dg a o))
  c1 : ∀ o, o < 4 → wx.cell? ⟨w.heap.size + 1, o, none⟩ = some (.int .u64 (dg b o))
  bel : Below w.heap.size w wx
theorem S2_below {w : World} {a b : Nat} {w1 w2 : World} (h : S2 w a b w1) (k : Below w1.heap.size w1 w2) : S2 w a b w2 := by
  have hi := h.hi
  have := k.size
  exact ⟨by omega, C4_below h.c0 k (by omega), C4_below h.c1 k (by omega), h.bel.trans (k.mono (by omega))⟩
theorem S2_drew {w : World} {a b : Nat} {w1 : World} (h : S2 w a b w1) : S2 w a b w1.drew := ⟨h.hi, h.c0, h.c1, h.bel.drew⟩
theorem S2_start (w : World) (a b : Nat) : S2 w a b ((w.alloc (.cells #[.int .u64 (dg a 0), .int .u64 (dg a 1), .int .u64 (dg a 2), .int .u64 (dg a 3)] 24)).alloc (.cells #[.int .u64 (dg b 0), .int .u64 (dg b 1), .int .u64 (dg b 2), .int .u64 (dg b 3)] 24)) := by
  refine ⟨by simp, fun o ho => ?_, fun o ho => ?_, ?_⟩
  · have : o = 0 ∨ o = 1 ∨ o = 2 ∨ o = 3 := by omega
    rcases this with rfl | rfl | rfl | rfl <;> simp [go_sem]
  · have : o = 0 ∨ o = 1 ∨ o = 2 ∨ o = 3 := by omega
    rcases this with rfl | rfl | rfl | rfl <;> simp [go_sem]
  · repeat (first | exact Below.refl _ _ | refine Below.alloc ?_ (by simp <;> omega) _)
structure S3 (w : World) (a b c : Nat) (wx : World) : Prop where
  hi : w.heap.size + 1 + 1 < wx.heap.size
  c0 : ∀ o, o < 4 → wx.cell? ⟨w.heap.size, o, none⟩ = some (.int .u64 (dg a o))
  c1 : ∀ o, o < 4 → wx.cell? ⟨w.heap.size + 1, o, none⟩ = some (.int .u64 (dg b o))
  c2 : ∀ o, o < 4 → wx.cell? ⟨w.heap.size + 1 + 1, o, none⟩ = some (.int .u64 (dg c o))
  bel : Below w.heap.size w wx
theorem S3_below {w : World} {a b c : Nat} {w1 w2 : World} (h : S3 w a b c w1) (k : Below w1.heap.size w1 w2) : S3 w a b c w2 := by
  have hi := h.hi
  have := k.size
  exact ⟨by omega, C4_below h.c0 k (by omega), C4_below h.c1 k (by omega), C4_below h.c2 k (by omega), h.bel.trans (k.mono (by omega))⟩
theorem S3_drew {w : World} {a b c : Nat} {w1 : World} (h : S3 w a b c w1) : S3 w a b c w1.drew := ⟨h.hi, h.c0, h.c1, h.c2, h.bel.drew⟩
theorem S3_start (w : World) (a b c : Nat) : S3 w a b c (((w.alloc (.cells #[.int .u64 (dg a 0), .int .u64 (dg a 1), .int .u64 (dg a 2), .int .u64 (dg a 3)] 24)).alloc (.cells #[.int .u64 (dg b 0), .int .u64 (dg b 1), .int .u64 (dg b 2), .int .u64 (dg b 3)] 24)).alloc (.cells #[.int .u64 (dg c 0), .int .u64 (dg c 1), .int .u64 (dg c 2), .int .u64 (dg c 3)] 24)) := by
  refine ⟨by simp, fun o ho => ?_, fun o ho => ?_, fun o ho => ?_, ?_⟩
  · have : o = 0 ∨ o = 1 ∨ o = 2 ∨ o = 3 := by omega
    rcases this with rfl | rfl | rfl | rfl <;> simp [go_sem]
  · have : o = 0 ∨ o = 1 ∨ o = 2 ∨ o = 3 := by omega
    rcases this with rfl | rfl | rfl | rfl <;> simp [go_sem]
  · have : o = 0 ∨ o = 1 ∨ o = 2 ∨ o = 3 := by omega
    rcases this with rfl | rfl | rfl | rfl <;> simp [go_sem]
  · repeat (first | exact Below.refl _ _ | refine Below.alloc ?_ (by simp <;> omega) _)
structure S4 (w : World) (a b c d : Nat) (wx : World) : Prop where
  hi : w.heap.size + 1 + 1 + 1 < wx.heap.size
  c0 : ∀ o, o < 4 → wx.cell? ⟨w.heap.size, o, none⟩ = some (.int .u64 (dg a o))
  c1 : ∀ o, o < 4 → wx.cell? ⟨w.heap.size + 1, o, none⟩ = some (.int .u64 (dg b o))
  c2 : ∀ o, o < 4 → wx.cell? ⟨w.heap.size + 1 + 1, o, none⟩ = some (.int .u64 (dg c o))
  c3 : ∀ o, o < 4 → wx.cell? ⟨w.heap.size + 1 + 1 + 1, o, none⟩ = some (.int .u64 (dg d o))
  bel : Below w.heap.size w wx
theorem S4_below {w : World} {a b c d : Nat} {w1 w2 : World} (h : S4 w a b c d w1) (k : Below w1.heap.size w1 w2) : S4 w a b c d w2 := by
  have hi := h.hi
  have := k.size
  exact ⟨by omega, C4_below h.c0 k (by omega), C4_below h.c1 k (by omega), C4_below h.c2 k (by omega), C4_below h.c3 k (by omega), h.bel.trans (k.mono (by omega))⟩
theorem S4_drew {w : World} {a b c d : Nat} {w1 : World} (h : S4 w a b c d w1) : S4 w a b c d w1.drew := ⟨h.hi, h.c0, h.c1, h.c2, h.c3, h.bel.drew⟩
theorem S4_start (w : World) (a b c d : Nat) : S4 w a b c d ((((w.alloc (.cells #[.int .u64 (dg a 0), .int .u64 (dg a 1), .int .u64 (dg a 2), .int .u64 (dg a 3)] 24)).alloc (.cells #[.int .u64 (dg b 0), .int .u64 (dg b 1), .int .u64 (dg b 2), .int .u64 (dg b 3)] 24)).alloc (.cells #[.int .u64 (dg c 0), .int .u64 (dg c 1), .int .u64 (dg c 2), .int .u64 (dg c 3)] 24)).alloc (.cells #[.int .u64 (dg d 0), .int .u64 (dg d 1), .int .u64 (dg d 2), .int .u64 (dg d 3)] 24)) := by
  refine ⟨by simp, fun o ho => ?_, fun o ho => ?_, fun o ho => ?_, fun o ho => ?_, ?_⟩
  · have : o = 0 ∨ o = 1 ∨ o = 2 ∨ o = 3 := by omega
    rcases this with rfl | rfl | rfl | rfl <;> simp [go_sem]
  · have : o = 0 ∨ o = 1 ∨ o = 2 ∨ o = 3 := by omega
    rcases this with rfl | rfl | rfl | rfl <;> simp [go_sem]
  · have : o = 0 ∨ o = 1 ∨ o = 2 ∨ o = 3 := by omega
    rcases this with rfl | rfl | rfl | rfl <;> simp [go_sem]
  · have : o = 0 ∨ o = 1 ∨ o = 2 ∨ o = 3 := by omega
    rcases this with rfl | rfl | rfl | rfl <;> simp [go_sem]
  · repeat (first | exact Below.refl _ _ | refine Below.alloc ?_ (by simp <;> omega) _)
theorem Wd_congr {x y : Nat} (h : x % 2 ^ 256 = y % 2 ^ 256) : Wd x = Wd y := by rw [← Wd_mod x, ← Wd_mod y, h]
end Go.Proofs.YtlpdendoibdceaaDoor
/- word.divide at every word; word.DivMod. -/
namespace Go.Proofs.YtlpdendoibdceaaDoor
open Go.RowKit Go.Shelf
attribute [local go_sem ↓] Go.wp_at_zero Go.wp_at_succ
/-- The rest; 0, if b is 0. -/
def md (a b : Nat) : Nat := if b = 0 then 0 else a % b
theorem wd_zero : Wd 0 = .agg #[.int .u64 0, .int .u64 0, .int .u64 0, .int .u64 0] := by unfold Wd; simp only [dg_zero]
theorem wi_zero : Wi 0 = .agg #[.int .u64 0, .int .u64 0, .int .u64 0, .int .u64 0, .int .u64 0, .int .u64 0, .int .u64 0, .int .u64 0] := by unfold Wi; simp only [dg_zero]
theorem eq_zero (w : World) : (binOp .eql 24 (.agg #[.int .u64 0, .int .u64 0, .int .u64 0, .int .u64 0]) (.agg #[.int .u64 0, .int .u64 0, .int .u64 0, .int .u64 0])).run Tryd.prog w = .ok (.bool true) w := by
  obtain ⟨i, hi⟩ := Tryd.infoU64
  rw [run_eql_struct, run_equalIn_array w 9999 _ _ Tryd.underlying24 hi, Tryd.cellsU64]
  simp [Op.eqItems, go_sem, List.range, List.range.loop]
end Go.Proofs.YtlpdendoibdceaaDoor
/- The order of two lists of bytes, the greatest first, is that of the numbers. -/
namespace Go.Proofs.YtlpdendoibdceaaDoor
open Go.RowKit Go.Shelf
/-- The m least bytes of a, the greatest first. -/
def BB (a : Nat) : Nat → List UInt8
  | 0 => []
  | m + 1 => UInt8.ofNat (a / 2 ^ (8 * m) % 256) :: BB a m
theorem u8_lt (x y : Nat) (hx : x < 256) (hy : y < 256) : decide (UInt8.ofNat x < UInt8.ofNat y) = decide (x < y) := by
  rw [decide_eq_decide, UInt8.lt_iff_toNat_lt, UInt8.toNat_ofNat', UInt8.toNat_ofNat', Nat.mod_eq_of_lt hx, Nat.mod_eq_of_lt hy]
theorem u8_eq (x y : Nat) (hx : x < 256) (hy : y < 256) : (UInt8.ofNat x == UInt8.ofNat y) = decide (x = y) := by
  rw [Bool.eq_iff_iff, beq_iff_eq, decide_eq_true_iff]
  constructor
  · intro h
    have := congrArg UInt8.toNat h
    rw [UInt8.toNat_ofNat', UInt8.toNat_ofNat', Nat.mod_eq_of_lt hx, Nat.mod_eq_of_lt hy] at this
    exact this
  · intro h; rw [h]
theorem mod_split (n m : Nat) : n % 2 ^ (8 * (m + 1)) = n % 2 ^ (8 * m) + 2 ^ (8 * m) * (n / 2 ^ (8 * m) % 256) := by
  rw [Nat.mul_add, Nat.pow_add, Nat.mod_mul]
theorem lex_lt (p x y u v : Nat) (hu : u < p) (hv : v < p) : (u + p * x < v + p * y) ↔ (x < y ∨ (x = y ∧ u < v)) := by
  rcases Nat.lt_trichotomy x y with h | h | h
  · have : p * x + p ≤ p * y := by rw [← Nat.mul_succ]; exact Nat.mul_le_mul_left p h
    constructor
    · intro _; exact Or.inl h
    · intro _; omega
  · subst h
    constructor
    · intro k; exact Or.inr ⟨rfl, by omega⟩
    · rintro (k | ⟨_, k⟩) <;> omega
  · have : p * y + p ≤ p * x := by rw [← Nat.mul_succ]; exact Nat.mul_le_mul_left p h
    constructor
    · intro k; omega
    · rintro (k | ⟨k, _⟩) <;> omega
theorem bb_less (a b : Nat) : ∀ m, Op.bytesLess (BB a m) (BB b m) = decide (a % 2 ^ (8 * m) < b % 2 ^ (8 * m))
  | 0 => by simp [BB, Op.bytesLess, Nat.mod_one]
  | m + 1 => by
    have hp : 0 < 2 ^ (8 * m) := Nat.two_pow_pos _
    have ha := Nat.mod_lt (a / 2 ^ (8 * m)) (show 0 < 256 by decide)
    have hb := Nat.mod_lt (b / 2 ^ (8 * m)) (show 0 < 256 by decide)
    rw [BB, BB, Op.bytesLess, bb_less a b m, u8_lt _ _ ha hb, u8_eq _ _ ha hb, mod_split a m, mod_split b m]
    have := lex_lt (2 ^ (8 * m)) (a / 2 ^ (8 * m) % 256) (b / 2 ^ (8 * m) % 256) (a % 2 ^ (8 * m)) (b % 2 ^ (8 * m)) (Nat.mod_lt _ hp) (Nat.mod_lt _ hp)
    rw [Bool.eq_iff_iff]
    simp only [Bool.or_eq_true, Bool.and_eq_true, decide_eq_true_iff]
    exact this.symm
/-- The bytes of a word as a string. -/
def wstr (a : Nat) : ByteArray := strOfNums ((List.range 32).map (bt a))
theorem wstr_list (a : Nat) : (wstr a).toList = BB a 32 := by
  rw [ByteArray.toList_eq]
  unfold wstr
  rw [strOfNums_data]
  rfl
theorem wstr_less (a b : Nat) (ha : a < 2 ^ 256) (hb : b < 2 ^ 256) : Op.bytesLess (wstr a).toList (wstr b).toList = decide (a < b) := by
  rw [wstr_list, wstr_list, bb_less, Nat.mod_eq_of_lt (by simpa using ha), Nat.mod_eq_of_lt (by simpa using hb)]
theorem bb_inj (a b : Nat) : ∀ m, BB a m = BB b m → a % 2 ^ (8 * m) = b % 2 ^ (8 * m)
  | 0, _ => by simp [Nat.mod_one]
  | m + 1, h => by
    have ha := Nat.mod_lt (a / 2 ^ (8 * m)) (show 0 < 256 by decide)
    have hb := Nat.mod_lt (b / 2 ^ (8 * m)) (show 0 < 256 by decide)
    rw [BB, BB, List.cons.injEq] at h
    have h1 := u8_eq _ _ ha hb
    rw [h.1, beq_self_eq_true] at h1
    have h2 := of_decide_eq_true h1.symm
    rw [mod_split a m, mod_split b m, bb_inj a b m h.2, h2]
theorem bt_getD (a i : Nat) (hi : i < 32) : ((List.range 32).map (bt a)).getD i 0 = bt a i := by
  rw [List.getD_eq_getElem?_getD, List.getElem?_map, List.getElem?_range hi]
  rfl
end Go.Proofs.YtlpdendoibdceaaDoor
/- lampbearerref.WLess: the order of words, by their bytes. -/
namespace Go.Proofs.YtlpdendoibdceaaDoor
open Go.RowKit Go.Shelf
attribute [local go_sem ↓] Go.wp_at_zero Go.wp_at_succ
theorem conv_bytes {g cap : Nat} {a : Nat} {w : World} (h : R32 g (bt a) w) : (convert 30 9 (.slice (some ⟨g, 0, none⟩) 32 cap)).run Tryd.prog w = .ok (.string (wstr a)) w :=
  run_convert_bytes_arg w 30 5 Tryd.underlying30 Tryd.underlying5 g 0 32 cap ((List.range 32).map (bt a)) (by simp) (fun i hi => by rw [Nat.zero_add, bt_getD a i hi]; exact h i hi) 9 Tryd.underlying9
set_option maxHeartbeats 1000000 in
set_option maxRecDepth 100000 in
theorem wless_any (a b : Nat) (ha : a < 2 ^ 256) (hb : b < 2 ^ 256) (w : World) :
    Calls Tryd.prog 37 #[Wd a, Wd b] w fun e w' => e = .returned (.bool (decide (a < b))) ∧ Below w.heap.size w w' := by
  rw [← wstr_less a b ha hb]
  clear ha hb
  conv => arg 3; unfold Wd
  go_enter Tryd.func37, Tryd.ntmps37
  have s0 : C4 w.heap.size a ((w.alloc (.cells #[.int .u64 (dg a 0), .int .u64 (dg a 1), .int .u64 (dg a 2), .int .u64 (dg a 3)] 24)).alloc (.cells #[.int .u64 (dg b 0), .int .u64 (dg b 1), .int .u64 (dg b 2), .int .u64 (dg b 3)] 24)).drew ∧ C4 (w.heap.size + 1) b ((w.alloc (.cells #[.int .u64 (dg a 0), .int .u64 (dg a 1), .int .u64 (dg a 2), .int .u64 (dg a 3)] 24)).alloc (.cells #[.int .u64 (dg b 0), .int .u64 (dg b 1), .int .u64 (dg b 2), .int .u64 (dg b 3)] 24)).drew := by
    refine ⟨fun o ho => ?_, fun o ho => ?_⟩ <;> (have : o = 0 ∨ o = 1 ∨ o = 2 ∨ o = 3 := (by omega)) <;> rcases this with rfl | rfl | rfl | rfl <;> simp [go_sem]
  have z0 : w.heap.size + 1 < ((w.alloc (.cells #[.int .u64 (dg a 0), .int .u64 (dg a 1), .int .u64 (dg a 2), .int .u64 (dg a 3)] 24)).alloc (.cells #[.int .u64 (dg b 0), .int .u64 (dg b 1), .int .u64 (dg b 2), .int .u64 (dg b 3)] 24)).drew.heap.size := by simp
  have b0 : Below w.heap.size w ((w.alloc (.cells #[.int .u64 (dg a 0), .int .u64 (dg a 1), .int .u64 (dg a 2), .int .u64 (dg a 3)] 24)).alloc (.cells #[.int .u64 (dg b 0), .int .u64 (dg b 1), .int .u64 (dg b 2), .int .u64 (dg b 3)] 24)).drew := (((Below.refl _ _).alloc (Nat.le_refl _) _).alloc (by simp) _).drew
  go_wp2
  go_region_with
    (first
      | (go_at_call_of 46 (dg a 0); refine (wbytes_any a _).mono ?_; rintro e w1 ⟨g1, cap1, rfl, own1, hb1⟩; have z1 : w.heap.size + 1 < w1.heap.size := Nat.lt_of_lt_of_le z0 hb1.size; have s1 := And.intro (C4_below s0.1 hb1 (Nat.lt_of_succ_lt z0)) (C4_below s0.2 hb1 z0); have b1 := b0.trans (hb1.mono (Nat.le_of_lt (Nat.lt_of_succ_lt z0))); have c1 : ∀ o, o < 4 → w1.cell? ⟨w.heap.size + 1, o, none⟩ = some (.int .u64 (dg b o)) := s1.2; have q1 := R32_own own1; have l1 := (own1.lt g1 rfl).2; have v1 := conv_bytes (cap := cap1) q1; clear own1 hb1)
      | (go_at_call_of 46 (dg b 0); refine (wbytes_any b _).mono ?_; rintro e w2 ⟨g2, cap2, rfl, own2, hb2⟩; have s2 := And.intro (C4_below s1.1 hb2 (Nat.lt_of_succ_lt z1)) (C4_below s1.2 hb2 z1); have b2 := b1.trans (hb2.mono (Nat.le_of_lt (Nat.lt_of_succ_lt z1))); have q2 := R32_own own2; have v2 := conv_bytes (cap := cap2) q2; have v3 := conv_bytes (cap := cap1) (R32_below q1 hb2 l1); clear own2 hb2))
  all_goals
    go_wp2
    go_ret
    exact ⟨rfl, b2⟩
end Go.Proofs.YtlpdendoibdceaaDoor
/- lampbearerref.WDivMod: quotient and rest, by twice the divisor first. -/
namespace Go.Proofs.YtlpdendoibdceaaDoor
open Go.RowKit Go.Shelf
attribute [local go_sem ↓] Go.wp_at_zero Go.wp_at_succ
theorem twice_div (a b : Nat) (h0 : b ≠ 0) : a / b = a / (b + b) + a / (b + b) + (if b ≤ a % (b + b) then 1 else 0) ∧ a % b = (if b ≤ a % (b + b) then a % (b + b) - b else a % (b + b)) := by
  have h1 := Nat.div_add_mod a (b + b)
  have h2 := Nat.mod_lt a (show 0 < b + b by omega)
  generalize a / (b + b) = q at *
  generalize a % (b + b) = r at *
  have h3 : (b + b) * q = b * (q + q) := by rw [Nat.add_mul, Nat.mul_add]
  rw [h3] at h1
  by_cases c : b ≤ r
  · rw [if_pos c, if_pos c]
    have h4 : a = (r - b) + b * (q + q + 1) := by rw [Nat.mul_add, Nat.mul_one]; omega
    constructor
    · rw [h4, Nat.add_mul_div_left _ _ (by omega), Nat.div_eq_of_lt (by omega)]; omega
    · rw [h4, Nat.add_mul_mod_self_left, Nat.mod_eq_of_lt (by omega)]
  · rw [if_neg c, if_neg c]
    have h4 : a = r + b * (q + q) := by omega
    constructor
    · rw [h4, Nat.add_mul_div_left _ _ (by omega), Nat.div_eq_of_lt (by omega)]; omega
    · rw [h4, Nat.add_mul_mod_self_left, Nat.mod_eq_of_lt (by omega)]
theorem resultW (tm : Array Value) (w W : World) (a b x y : Nat) (h4 : tm.getD 4 undef = .pointer (some ⟨w.heap.size + 1 + 1, 0, none⟩)) (h5 : tm.getD 5 undef = .pointer (some ⟨w.heap.size + 1 + 1 + 1, 0, none⟩)) (m : M4 w a b x y W) : (results Tryd.f25 tm).run Tryd.prog W = .ok (.tuple #[Wd x, Wd y]) W := by
  have c1 : ∀ o, o < 4 → W.cell? ⟨w.heap.size + 1 + 1, o, none⟩ = some (.int .u64 (dg x o)) := m.v2.c
  have c2 : ∀ o, o < 4 → W.cell? ⟨w.heap.size + 1 + 1 + 1, o, none⟩ = some (.int .u64 (dg y o)) := m.v3.c
  simp at h4 h5
  simp [Wd, results, Tryd.results25, go_sem, h4, h5, c1, c2]
set_option maxHeartbeats 4000000 in
set_option maxRecDepth 100000 in
theorem wdivmod_zero (a : Nat) (w : World) :
    Calls Tryd.prog 25 #[Wd a, Wd 0] w fun e w' => e = .returned (.tuple #[Wd 0, Wd 0]) ∧ Below w.heap.size w w' := by
  have q0 := eq_zero
  have q1 := eq_guard2
  rw [wd_zero]
  conv => arg 3; unfold Wd
  go_enter Tryd.func25, Tryd.ntmps25
  go_wp2_with fail
  refine bodyPost_ret (v := .tuple #[.agg #[.int .u64 0, .int .u64 0, .int .u64 0, .int .u64 0], .agg #[.int .u64 0, .int .u64 0, .int .u64 0, .int .u64 0]]) (by simp [results, Tryd.results25, go_sem]) rfl ⟨rfl, ?_⟩
  repeat (first | exact Below.refl _ _ | refine Below.alloc ?_ (by simp <;> omega) _)
set_option maxHeartbeats 4000000 in
set_option maxRecDepth 100000 in
theorem wdivmod_pos (a : Nat) (ha : a < 2 ^ 256) : ∀ (k b : Nat) (_ : b < 2 ^ 256) (_ : b ≠ 0) (_ : 2 ^ 256 ≤ b * 2 ^ k) (w : World),
    Calls Tryd.prog 25 #[Wd a, Wd b] w fun e w' => e = .returned (.tuple #[Wd (a / b), Wd (a % b)]) ∧ Below w.heap.size w w' := by
  intro k
  induction k with
  | zero => intro b h1 _ h2 w; exact absurd h2 (by omega)
  | succ k ih =>
    intro b hb h0 hk w
    have q0 := eq_no b hb h0
    have q1 := eq_guard2
    have HL : Hid (∀ x, x < 2 ^ 256 → ∀ w : World, Calls Tryd.prog 37 #[Wd x, Wd b] w fun e w' => e = .returned (.bool (decide (x < b))) ∧ Below w.heap.size w w') := fun x hx w => wless_any x b hx hb w
    have HA : Hid (a < 2 ^ 256) := ha
    have HB : Hid (b < 2 ^ 256 ∧ b ≠ 0 ∧ 2 ^ 256 ≤ b * 2 ^ (k + 1)) := ⟨hb, h0, hk⟩
    obtain ⟨Q, hQ⟩ : ∃ Q, Q = a / (b + b) := ⟨_, rfl⟩
    obtain ⟨R, hR⟩ : ∃ R, R = a % (b + b) := ⟨_, rfl⟩
    have tw := twice_div a b h0
    rw [← hQ, ← hR] at tw
    have HE1 : Hid (R < b → a / b = Q + Q ∧ a % b = R) := fun h => by rw [tw.1, tw.2, if_neg (by omega), if_neg (by omega)]; exact ⟨rfl, rfl⟩
    have HE2 : Hid (¬ R < b → a / b = Q + Q + 1 ∧ a % b = R - b) := fun h => by rw [tw.1, tw.2, if_pos (by omega), if_pos (by omega)]; exact ⟨rfl, rfl⟩
    have hRa : R ≤ a := by rw [hR]; exact Nat.mod_le _ _
    have HR : Hid (R < 2 ^ 256) := Nat.lt_of_le_of_lt hRa ha
    have HS : Hid (¬ R < b → ∀ w : World, Calls Tryd.prog 40 #[Wd R, Wd b] w fun e w' => e = .returned (Wd (R - b)) ∧ Below w.heap.size w w') := fun h w => by
      refine (wsub_any R b hb w).mono ?_
      rintro e w' ⟨rfl, k⟩
      exact ⟨congrArg _ (Wd_congr (by omega)), k⟩
    have HT : Hid (wb b 255 = true → ¬ a < b → Q = 0 ∧ R = a) := fun h1 h2 => by
      have hb2 : 2 ^ 255 ≤ b := by
        unfold wb at h1
        have h3 := of_decide_eq_true h1
        rcases Nat.lt_or_ge b (2 ^ 255) with h4 | h4
        · rw [Nat.div_eq_of_lt h4] at h3; omega
        · exact h4
      rw [hQ, hR, Nat.div_eq_of_lt (by omega), Nat.mod_eq_of_lt (by omega)]
      exact ⟨rfl, rfl⟩
    have HI : Hid (wb b 255 = false → ∀ w : World, Calls Tryd.prog 25 #[Wd a, Wd (b + b)] w fun e w' => e = .returned (.tuple #[Wd Q, Wd R]) ∧ Below w.heap.size w w') := fun h1 w => by
      have hb2 : b < 2 ^ 255 := by
        unfold wb at h1
        have h3 := of_decide_eq_false h1
        rcases Nat.lt_or_ge b (2 ^ 255) with h4 | h4
        · exact h4
        · exfalso
          apply h3
          have : b / 2 ^ 255 = 1 := by
            apply Nat.div_eq_of_lt_le
            · omega
            · omega
          rw [this]
      rw [hQ, hR]
      exact ih (b + b) (by omega) (by omega) (by have hk2 : b * 2 ^ (k + 1) = b * 2 ^ k + b * 2 ^ k := (by rw [Nat.pow_succ, ← Nat.mul_assoc, Nat.mul_two]); rw [hk2] at hk; rw [Nat.add_mul]; exact hk) w
    clear hb h0 hk tw hRa hQ hR ih
    have m := M4_start w a b 24
    conv => arg 3; unfold Wd
    go_enter Tryd.func25, Tryd.ntmps25
    go_wp2_with fail
    refine (HL.out a HA.out _).mono ?_
    rintro e1 w1 ⟨rfl, hb1⟩
    replace m := M4_below m hb1
    clear hb1 q0 q1
    by_cases hlt : a < b
    · rw [decide_eq_true hlt]
      have c0 := m.v0.c
      have c2 := m.v2.c
      have c3 := m.v3.c
      have f2 := m.v2.f
      have f3 := m.v3.f
      unfold CF at c0 c2 c3
      unfold Fz at f2 f3
      have z : a / b = 0 ∧ a % b = a := ⟨Nat.div_eq_of_lt hlt, Nat.mod_eq_of_lt hlt⟩
      have HZ : Hid (a / b = 0 ∧ a % b = a) := z
      clear z
      go_wp2_with fail
      go_region
      all_goals
        go_wp2_with fail
        first
          | exact bodyPost_ret (v := .tuple #[Wd 0, Wd a]) (resultW _ w _ a b _ _ rfl rfl (M4_drew (M4_set3 (m := a) (M4_set2 (m := 0) m)))) rfl ⟨by rw [HZ.out.1, HZ.out.2], (M4_drew (M4_set3 (m := a) (M4_set2 (m := 0) m))).bel⟩
          | exact bodyPost_ret (v := .tuple #[Wd 0, Wd a]) (resultW _ w _ a b _ _ rfl rfl (M4_set3 (m := a) (M4_set2 (m := 0) (M4_drew m)))) rfl ⟨by rw [HZ.out.1, HZ.out.2], (M4_set3 (m := a) (M4_set2 (m := 0) (M4_drew m))).bel⟩
    · rw [decide_eq_false hlt]
      have c1 : ∀ o, o < 4 → w1.cell? ⟨w.heap.size + 1, o, none⟩ = some (.int .u64 (dg b o)) := m.v1.c
      go_wp2_with fail
      refine (wbit_any b 255 _ (by decide)).mono ?_
      rintro e2 w2 ⟨rfl, hb2⟩
      replace m := M4_below m hb2
      clear hb2 c1
      by_cases hw : wb b 255 = true
      · rw [hw]
        obtain ⟨t1, t2⟩ := HT.out hw hlt
        have n : M4 w a b Q 0 w2 := by rw [t1]; exact m
        have c0 := n.v0.c
        have c2 := n.v2.c
        have c3 := n.v3.c
        have f3 := n.v3.f
        unfold CF at c0 c2 c3
        unfold Fz at f3
        have n2 := M4_set3 (m := R) n
        rw [t2] at n2
        have T2 : Hid (R = a) := t2
        clear m t1 t2
        go_wp2_with fail
        refine (wadd_any Q Q _).mono ?_
        rintro e4 w4 ⟨rfl, hb4⟩
        have m4 : M4 w a b Q R w4 := by
          have k := M4_below n2 hb4
          rw [T2.out]
          exact k
        clear hb4
        have c1 := m4.v1.c
        have c2 := m4.v2.c
        have c3 := m4.v3.c
        have f2 := m4.v2.f
        unfold CF at c1 c2 c3
        unfold Fz at f2
        simp only [Wd]
        go_wp2_with fail
        refine (HL.out R HR.out _).mono ?_
        rintro e5 w5 ⟨rfl, hb5⟩
        have m5 := M4_below (M4_set2 (m := Q + Q) m4) hb5
        clear hb5 m4 c1 c2 c3 f2
        by_cases hr : R < b
        · rw [decide_eq_true hr]
          have c2 := m5.v2.c
          have c3 := m5.v3.c
          have f2 := m5.v2.f
          have f3 := m5.v3.f
          unfold CF at c2 c3
          unfold Fz at f2 f3
          go_wp2_with fail
          go_region
          all_goals
            go_wp2_with fail
            first
              | exact bodyPost_ret (v := .tuple #[Wd (Q + Q), Wd (R)]) (resultW _ w _ a b _ _ rfl rfl (M4_drew (M4_set3 (m := R) (M4_set2 (m := Q + Q) m5)))) rfl ⟨by rw [(HE1.out hr).1, (HE1.out hr).2], (M4_drew (M4_set3 (m := R) (M4_set2 (m := Q + Q) m5))).bel⟩
              | exact bodyPost_ret (v := .tuple #[Wd (Q + Q), Wd (R)]) (resultW _ w _ a b _ _ rfl rfl (M4_set3 (m := R) (M4_set2 (m := Q + Q) (M4_drew m5)))) rfl ⟨by rw [(HE1.out hr).1, (HE1.out hr).2], (M4_set3 (m := R) (M4_set2 (m := Q + Q) (M4_drew m5))).bel⟩
        · rw [decide_eq_false hr]
          have c1 := m5.v1.c
          have c2 := m5.v2.c
          have c3 := m5.v3.c
          unfold CF at c1 c2 c3
          go_wp2_with fail
          go_cut [33] (fun _ wx => M4 w a b (Q + Q + 1) (R - b) wx)
          case first =>
            go_region_with (first | (go_at_call 26; refine (wint_any 1 (by decide) _).mono ?_; rintro e6 w6 ⟨rfl, hb6⟩; have m6 := M4_below (M4_drew m5) hb6; have d1 := m6.v1.c; have d2 := m6.v2.c; have d3 := m6.v3.c; unfold CF at d1 d2 d3; clear hb6) | (go_at_call 39; refine (wadd_any (Q + Q) 1 _).mono ?_; rintro e7 w7 ⟨rfl, hb7⟩; have m7 := M4_below m6 hb7; have x1 := m7.v1.c; have x3 := m7.v3.c; unfold CF at x1 x3; clear hb7) | (go_at_call 40; refine (HS.out hr _).mono ?_; rintro e8 w8 ⟨rfl, hb8⟩; have m8 := M4_below m7 hb8; have y2 := m8.v2.c; have y3 := m8.v3.c; have g2 := m8.v2.f; have g3 := m8.v3.f; unfold CF at y2 y3; unfold Fz at g2 g3; clear hb8; simp only [Wd]))
            all_goals
              go_wp2_with fail
              go_meet
              case rel => exact M4_set3 (m := R - b) (M4_set2 (m := Q + Q + 1) m8)
          case rest =>
            clear m5 c1 c2 c3
            have m9 := hcut
            clear hcut
            have c2 := m9.v2.c
            have c3 := m9.v3.c
            have f2 := m9.v2.f
            have f3 := m9.v3.f
            unfold CF at c2 c3
            unfold Fz at f2 f3
            go_wp2_with fail
            go_region
            all_goals
              go_wp2_with fail
              first
                | exact bodyPost_ret (v := .tuple #[Wd (Q + Q + 1), Wd (R - b)]) (resultW _ w _ a b _ _ rfl rfl (M4_drew (M4_set3 (m := R - b) (M4_set2 (m := Q + Q + 1) m9)))) rfl ⟨by rw [(HE2.out hr).1, (HE2.out hr).2], (M4_drew (M4_set3 (m := R - b) (M4_set2 (m := Q + Q + 1) m9))).bel⟩
                | exact bodyPost_ret (v := .tuple #[Wd (Q + Q + 1), Wd (R - b)]) (resultW _ w _ a b _ _ rfl rfl (M4_set3 (m := R - b) (M4_set2 (m := Q + Q + 1) (M4_drew m9)))) rfl ⟨by rw [(HE2.out hr).1, (HE2.out hr).2], (M4_set3 (m := R - b) (M4_set2 (m := Q + Q + 1) (M4_drew m9))).bel⟩
      · have hw' : wb b 255 = false := by simpa using hw
        rw [hw']
        have c0 := m.v0.c
        have c1 := m.v1.c
        unfold CF at c0 c1
        go_wp2_with fail
        go_cut [19] (fun _ wx => M4 w a b Q R wx)
        case first =>
          go_region_held3 (fun w' => (∀ o, o < 4 → w'.cell? ⟨w.heap.size, o, none⟩ = some (.int .u64 (dg a o))) ∧ (∀ o, o < 4 → w'.cell? ⟨w.heap.size + 1, o, none⟩ = some (.int .u64 (dg b o)))) (first | with_reducible exact ⟨c0, c1⟩ | with_reducible exact s3 | with_reducible exact s4 | (refine ⟨?_, ?_⟩ <;> (repeat (first | with_reducible exact s4.1 | with_reducible exact s4.2 | with_reducible exact c0 | with_reducible exact c1 | (with_reducible refine K_drew ?_) | (with_reducible refine K_o4 ?_ (by omega))))))
            (first | (go_at_call 39; refine (wadd_any b b _).mono ?_; rintro e3 w3 ⟨rfl, hb3⟩; have m3 := M4_below (M4_drew m) hb3; have s3 : (∀ o, o < 4 → w3.cell? ⟨w.heap.size, o, none⟩ = some (.int .u64 (dg a o))) ∧ (∀ o, o < 4 → w3.cell? ⟨w.heap.size + 1, o, none⟩ = some (.int .u64 (dg b o))) := ⟨m3.v0.c, m3.v1.c⟩; clear hb3) | (go_at_call 25; refine (HI.out hw' _).mono ?_; rintro e4 w4 ⟨rfl, hb4⟩; have m4 := M4_below m3 hb4; have s4 : (∀ o, o < 4 → w4.cell? ⟨w.heap.size, o, none⟩ = some (.int .u64 (dg a o))) ∧ (∀ o, o < 4 → w4.cell? ⟨w.heap.size + 1, o, none⟩ = some (.int .u64 (dg b o))) := ⟨m4.v0.c, m4.v1.c⟩; have d2 := m4.v2.c; have d3 := m4.v3.c; have f2 := m4.v2.f; have f3 := m4.v3.f; unfold CF at d2 d3; unfold Fz at f2 f3; clear hb4; simp only [Wd]))
          all_goals
            go_wp2_with fail
            go_meet
            case rel => exact M4_set3 (m := R) (M4_set2 (m := Q) m4)
        case rest =>
          clear m c0 c1
          have m := hcut
          clear hcut
          have c2 := m.v2.c
          unfold CF at c2
          go_wp2_with fail
          refine (wadd_any Q Q _).mono ?_
          rintro e4 w4 ⟨rfl, hb4⟩
          have m4 := M4_below (m) hb4
          clear hb4
          have c1 := m4.v1.c
          have c2 := m4.v2.c
          have c3 := m4.v3.c
          have f2 := m4.v2.f
          unfold CF at c1 c2 c3
          unfold Fz at f2
          simp only [Wd]
          go_wp2_with fail
          refine (HL.out R HR.out _).mono ?_
          rintro e5 w5 ⟨rfl, hb5⟩
          have m5 := M4_below (M4_set2 (m := Q + Q) m4) hb5
          clear hb5 m4 c1 c2 c3 f2
          by_cases hr : R < b
          · rw [decide_eq_true hr]
            have c2 := m5.v2.c
            have c3 := m5.v3.c
            have f2 := m5.v2.f
            have f3 := m5.v3.f
            unfold CF at c2 c3
            unfold Fz at f2 f3
            go_wp2_with fail
            go_region
            all_goals
              go_wp2_with fail
              first
                | exact bodyPost_ret (v := .tuple #[Wd (Q + Q), Wd (R)]) (resultW _ w _ a b _ _ rfl rfl (M4_drew (M4_set3 (m := R) (M4_set2 (m := Q + Q) m5)))) rfl ⟨by rw [(HE1.out hr).1, (HE1.out hr).2], (M4_drew (M4_set3 (m := R) (M4_set2 (m := Q + Q) m5))).bel⟩
                | exact bodyPost_ret (v := .tuple #[Wd (Q + Q), Wd (R)]) (resultW _ w _ a b _ _ rfl rfl (M4_set3 (m := R) (M4_set2 (m := Q + Q) (M4_drew m5)))) rfl ⟨by rw [(HE1.out hr).1, (HE1.out hr).2], (M4_set3 (m := R) (M4_set2 (m := Q + Q) (M4_drew m5))).bel⟩
          · rw [decide_eq_false hr]
            have c1 := m5.v1.c
            have c2 := m5.v2.c
            have c3 := m5.v3.c
            unfold CF at c1 c2 c3
            go_wp2_with fail
            go_cut [33] (fun _ wx => M4 w a b (Q + Q + 1) (R - b) wx)
            case first =>
              go_region_with (first | (go_at_call 26; refine (wint_any 1 (by decide) _).mono ?_; rintro e6 w6 ⟨rfl, hb6⟩; have m6 := M4_below (M4_drew m5) hb6; have d1 := m6.v1.c; have d2 := m6.v2.c; have d3 := m6.v3.c; unfold CF at d1 d2 d3; clear hb6) | (go_at_call 39; refine (wadd_any (Q + Q) 1 _).mono ?_; rintro e7 w7 ⟨rfl, hb7⟩; have m7 := M4_below m6 hb7; have x1 := m7.v1.c; have x3 := m7.v3.c; unfold CF at x1 x3; clear hb7) | (go_at_call 40; refine (HS.out hr _).mono ?_; rintro e8 w8 ⟨rfl, hb8⟩; have m8 := M4_below m7 hb8; have y2 := m8.v2.c; have y3 := m8.v3.c; have g2 := m8.v2.f; have g3 := m8.v3.f; unfold CF at y2 y3; unfold Fz at g2 g3; clear hb8; simp only [Wd]))
              all_goals
                go_wp2_with fail
                go_meet
                case rel => exact M4_set3 (m := R - b) (M4_set2 (m := Q + Q + 1) m8)
            case rest =>
              clear m5 c1 c2 c3
              have m9 := hcut
              clear hcut
              have c2 := m9.v2.c
              have c3 := m9.v3.c
              have f2 := m9.v2.f
              have f3 := m9.v3.f
              unfold CF at c2 c3
              unfold Fz at f2 f3
              go_wp2_with fail
              go_region
              all_goals
                go_wp2_with fail
                first
                  | exact bodyPost_ret (v := .tuple #[Wd (Q + Q + 1), Wd (R - b)]) (resultW _ w _ a b _ _ rfl rfl (M4_drew (M4_set3 (m := R - b) (M4_set2 (m := Q + Q + 1) m9)))) rfl ⟨by rw [(HE2.out hr).1, (HE2.out hr).2], (M4_drew (M4_set3 (m := R - b) (M4_set2 (m := Q + Q + 1) m9))).bel⟩
                  | exact bodyPost_ret (v := .tuple #[Wd (Q + Q + 1), Wd (R - b)]) (resultW _ w _ a b _ _ rfl rfl (M4_set3 (m := R - b) (M4_set2 (m := Q + Q + 1) (M4_drew m9)))) rfl ⟨by rw [(HE2.out hr).1, (HE2.out hr).2], (M4_set3 (m := R - b) (M4_set2 (m := Q + Q + 1) (M4_drew m9))).bel⟩
theorem wdivmod_any (a b : Nat) (ha : a < 2 ^ 256) (hb : b < 2 ^ 256) (w : World) :
    Calls Tryd.prog 25 #[Wd a, Wd b] w fun e w' => e = .returned (.tuple #[Wd (a / b), Wd (md a b)]) ∧ Below w.heap.size w w' := by
  by_cases h0 : b = 0
  · subst h0
    rw [Nat.div_zero]
    exact wdivmod_zero a w
  · unfold md
    rw [if_neg h0]
    exact wdivmod_pos a ha 256 b hb h0 (Nat.le_mul_of_pos_left _ (by omega)) w
end Go.Proofs.YtlpdendoibdceaaDoor
/- New words within a region. -/
namespace Go.Proofs.YtlpdendoibdceaaDoor
namespace Hm
open Go.RowKit
/-- A new word's block, none of L's. -/
structure Fresh (w : World) (L : List Bk) (g : Nat) (wx : World) : Prop where
  ok : Ok w.heap.size (W4 g 0) wx
  ne : ∀ b, b ∈ L → g ≠ b.g
theorem Fresh_below {w : World} {L : List Bk} {g : Nat} {w1 w2 : World} (h : Fresh w L g w1) (hb : Below w1.heap.size w1 w2) : Fresh w L g w2 := ⟨Ok_below h.ok hb, h.ne⟩
theorem cons {w : World} {L : List Bk} {g : Nat} {w1 : World} (h : Hd w L w1) (hg : Fresh w L g w1) : Hd w (⟨g, 4, fun o => .int .u64 (dg 0 o)⟩ :: L) w1 := by
  refine ⟨h.bel, fun k hk => ?_⟩
  rcases List.mem_cons.1 hk with rfl | hk
  · exact hg.ok
  · exact h.ok k hk
end Hm
namespace RW
open Go.RowKit Go.Shelf
theorem al {w0 : World} {L : List Hm.Bk} {K : Value → World → Prop} {ρ : Operand → Value} {o : Oper} {w : World} (ho : o.op = .alloc 24) (hS : Hm.Hd w0 L w)
    (hK : ∀ w', Below w.heap.size w w' → Hm.Fresh w0 L w.heap.size w' → K (RN.pv w.heap.size) w') : RS.upv Tryd.prog K ((execOp ρ o).run Tryd.prog w) := by
  obtain ⟨dst, op, ty, pos, after, guard⟩ := o
  simp only at ho
  subst ho
  have h1 := hK _ ((Below.refl _ _).alloc (Nat.le_refl _) (.cells #[.int .u64 0, .int .u64 0, .int .u64 0, .int .u64 0] 24)) ⟨(Hm.new0 hS rfl).ok _ (List.mem_cons_self ..), fun b hb => Nat.ne_of_gt (hS.ok b hb).hi⟩
  unfold RN.pv at h1
  go_simp
  exact h1
end RW
end Go.Proofs.YtlpdendoibdceaaDoor
/- The same, where those of class 1 may look at others of class 1 that they are bound to. A region that draws its order: some values stand fast whatever the order (class 0), some hang on when they come (class 1: new blocks), and the rest come behind all these, one behind the other (class 2). -/
namespace Go.Proofs.YtlpdendoibdceaaDoor
namespace RH
open RI RS RN Go.RowKit
variable {P : Program} {ops : Array Oper} {Q : Exit → Act → World → Prop}
def cls (ks : List Nat) (j : Nat) : Nat := ks.getD j 2
def updU (U : Nat → Value) (i : Nat) (v : Value) : Nat → Value := fun j => if j = i then v else U j
/-- A step of class 0. -/
def DStep (P : Program) (ops : Array Oper) (I : (Nat → Bool) → (Nat → Value) → World → Prop) (i : Nat) (o : Oper) (v : Value) (U : Nat → Value) (a : Act) : Prop :=
  (Region.wanted o (yielded ops a.tmps) = true ∧ ∀ (K : Value → World → Prop) d w, I d U w → may ops d i → (∀ w', I (don d i) U w' → K v w') → upv P K ((execOp a.eval o).run P w)) ∨
  (Region.wanted o (yielded ops a.tmps) = false ∧ v = undef ∧ ∀ d w, I d U w → may ops d i → I (don d i) U w)
/-- A step of class 1. -/
def NStep (P : Program) (ops : Array Oper) (I : (Nat → Bool) → (Nat → Value) → World → Prop) (j : Nat) (o : Oper) (U : Nat → Value) (a : Act) : Prop :=
  ∀ (K : Value → World → Prop) d w, I d U w → may ops d j → (∀ v w', I (don d j) (updU U j v) w' → K v w') → upv P K ((execOp a.eval o).run P w)
/-- The walk in the text's order: class 0 by its value, class 1 by its fact. -/
def Walk (P : Program) (ops : Array Oper) (I : (Nat → Bool) → (Nat → Value) → World → Prop) (E : ((Nat → Value) → Act) → Prop) : Nat → List Oper → List Nat → ((Nat → Value) → Act) → Prop
  | j, o :: r, k :: ks, f =>
    if k = 0 then ∃ v, (∀ U, DStep P ops I j o v U (f U)) ∧ Walk P ops I E (j + 1) r ks (fun U => (f U).put o.dst v)
    else if k = 1 then o.guard = none ∧ (∀ U, NStep P ops I j o U (f U)) ∧ Walk P ops I E (j + 1) r ks (fun U => (f U).put o.dst (U j))
    else Walk P ops I E (j + 1) r ks f
  | _, _, _, f => E f
def tl : List Oper → List Nat → List Oper
  | o :: r, k :: ks => if k = 2 then o :: tl r ks else tl r ks
  | _, _ => []
/-- What each operation is bound to, through others too, as bits. -/
def mask1 (ms : List Nat) (o : Oper) : Nat := o.after.toList.foldl (fun m e => if Region.binds .any e then m ||| (1 <<< e.on) ||| ms.getD e.on 0 else m) 0
def masks (ops : Array Oper) : Nat → List Nat
  | 0 => []
  | k + 1 => masks ops k ++ [((ops[k]?).map (mask1 (masks ops k))).getD 0]
def pairC (ops : Array Oper) (ks : List Nat) (i j : Nat) : Bool :=
  match ops[i]?, ops[j]? with
  | some x, some y =>
    match y.dst with
    | none => true
    | some t =>
      if cls ks i = 2 then true
      else if cls ks j = 2 then true
      else (x.dst != some t || i == j) && (if cls ks j = 1 ∧ cls ks i = 0 then !(x.looksAt ops).contains t else (!(x.looksAt ops).contains t || (decide (j < i) && bindsOn x j) || (decide (i < j) && bindsOn y i)))
  | _, _ => true
def okC (ops : Array Oper) (ks : List Nat) : Bool :=
  RI.early ops && decide (ks.length = ops.size) && (List.range ops.size).all fun i =>
    (((ops[i]?).map fun o => !isSel o.op).getD true && decide (cls ks i ≤ 2)) && (List.range ops.size).all (fun j => pairC ops ks i j) &&
    (if cls ks i = 2 then (List.range ops.size).all fun j => (decide (cls ks j = 2) && decide (i ≤ j)) || ((masks ops ops.size).getD i 0).testBit j else true)
theorem masks_len (ops : Array Oper) : ∀ k, (masks ops k).length = k
  | 0 => rfl
  | k + 1 => by rw [masks, List.length_append, masks_len ops k]; rfl
theorem masks_get (ops : Array Oper) : ∀ n k, k < n → (masks ops n).getD k 0 = ((ops[k]?).map (mask1 (masks ops k))).getD 0
  | 0, k, h => absurd h (by omega)
  | n + 1, k, h => by
    rw [masks]
    by_cases e : k = n
    · subst e
      rw [List.getD_eq_getElem?_getD, List.getElem?_append_right (by rw [masks_len]; omega), masks_len]
      simp
    · rw [List.getD_eq_getElem?_getD, List.getElem?_append_left (by rw [masks_len]; omega), ← List.getD_eq_getElem?_getD]
      exact masks_get ops n k (by omega)
def Closed (ops : Array Oper) (d : Nat → Bool) : Prop := ∀ (j : Nat) (o : Oper), ops[j]? = some o → d j = true → ∀ e, e ∈ o.after → Region.binds .any e = true → d e.on = true
theorem mask1_bit (ms : List Nat) (o : Oper) (i : Nat) (h : (mask1 ms o).testBit i = true) : ∃ e, e ∈ o.after ∧ Region.binds .any e = true ∧ (e.on = i ∨ (ms.getD e.on 0).testBit i = true) := by
  unfold mask1 at h
  have key : ∀ (l : List Edge) (m : Nat), (l.foldl (fun m e => if Region.binds .any e then m ||| (1 <<< e.on) ||| ms.getD e.on 0 else m) m).testBit i = true → m.testBit i = true ∨ ∃ e, e ∈ l ∧ Region.binds .any e = true ∧ (e.on = i ∨ (ms.getD e.on 0).testBit i = true) := by
    intro l
    induction l with
    | nil => intro m h; exact .inl h
    | cons e r ih =>
      intro m h
      rw [List.foldl_cons] at h
      rcases ih _ h with h1 | ⟨e', h1, h2⟩
      · by_cases hb : Region.binds .any e = true
        · rw [if_pos hb, Nat.testBit_or, Nat.testBit_or, Bool.or_eq_true, Bool.or_eq_true] at h1
          rcases h1 with (h1 | h1) | h1
          · exact .inl h1
          · refine .inr ⟨e, List.mem_cons_self .., hb, .inl ?_⟩
            rw [Nat.one_shiftLeft, Nat.testBit_two_pow] at h1
            simpa using h1
          · exact .inr ⟨e, List.mem_cons_self .., hb, .inr h1⟩
        · rw [if_neg hb] at h1; exact .inl h1
      · exact .inr ⟨e', List.mem_cons_of_mem _ h1, h2⟩
  rcases key _ 0 h with h1 | ⟨e, h1, h2⟩
  · rw [Nat.zero_testBit] at h1; cases h1
  · exact ⟨e, by simpa using h1, h2⟩
theorem mask_done (he : RI.early ops = true) (d : Nat → Bool) (hcl : Closed ops d) : ∀ (n j : Nat), j < n → n ≤ ops.size → (∀ o, ops[j]? = some o → ∀ e, e ∈ o.after → Region.binds .any e = true → d e.on = true) → ∀ i, (((ops[j]?).map (mask1 (masks ops j))).getD 0).testBit i = true → d i = true
  | 0, j, h, _, _, _, _ => absurd h (by omega)
  | n + 1, j, hj, hn, hd, i, h => by
    have hjs : j < ops.size := by omega
    rw [Array.getElem?_eq_getElem hjs] at h
    simp only [Option.map_some, Option.getD_some] at h
    obtain ⟨e, h1, h2, h3⟩ := mask1_bit _ _ _ h
    have h4 := hd _ (Array.getElem?_eq_getElem hjs) e h1 h2
    rcases h3 with rfl | h3
    · exact h4
    · have hlt : e.on < j := by
        have h5 := List.all_eq_true.1 he j (List.mem_range.2 hjs)
        rw [Array.getElem?_eq_getElem hjs] at h5
        simp only [Option.map_some, Option.getD_some, Array.all_eq_true_iff_forall_mem] at h5
        have := h5 e h1
        rw [h2] at this
        simpa using this
      rw [masks_get ops j e.on hlt] at h3
      exact mask_done he d hcl n e.on (by omega) (by omega) (fun o ho => hcl e.on o ho h4) i h3
theorem fr_get2 (V : Nat → Value) (a : Act) (d c : Nat → Bool) (i t : Nat) : ∀ k, (∀ j, j < k → (ops[j]?).bind (·.dst) = some t → (j < i ∧ d j = true ∧ c j = true) ∨ (d j = false ∧ (c j = false ∨ i ≤ j))) → (fr ops V d a k).tmps[t]? = (fr ops V c a (min k i)).tmps[t]?
  | 0, _ => by simp [fr]
  | k + 1, h => by
    have ih := fr_get2 V a d c i t k (fun j hj => h j (by omega))
    have hk := h k (by omega)
    by_cases hi : k < i
    · rw [show min (k + 1) i = k + 1 by omega, fr, fr]
      rw [show min k i = k by omega] at ih
      by_cases e : (ops[k]?).bind (·.dst) = some t
      · rcases hk e with ⟨_, h2, h3⟩ | ⟨h1, h2 | h2⟩
        · rw [h2, h3]; simp only [if_true]; rw [put_get, put_get]; simp only [get_size ih, ih]
        · rw [h1, h2]; exact ih
        · omega
      · have q : ∀ (x : Act) (b : Bool), (if b then x.put ((ops[k]?).bind (·.dst)) (V k) else x).tmps[t]? = x.tmps[t]? := by
          intro x b; cases b
          · rfl
          · simp only [if_true]; rw [put_get, if_neg e]
        rw [q, q, ih]
    · rw [show min (k + 1) i = i by omega, fr]
      rw [show min k i = i by omega] at ih
      by_cases e : (ops[k]?).bind (·.dst) = some t
      · rcases hk e with ⟨h1, _⟩ | ⟨h2, _⟩
        · omega
        · rw [h2]; exact ih
      · cases d k
        · exact ih
        · simp only [if_true]; rw [put_get, if_neg e]; exact ih
theorem fr_put2 (V : Nat → Value) (a : Act) (d : Nat → Bool) (i : Nat) (hd : d i = false) : ∀ k, (∀ j, j < k → d j = true → ∀ t, (ops[i]?).bind (·.dst) = some t → (ops[j]?).bind (·.dst) ≠ some t) →
    fr ops V (don d i) a k = if i < k then (fr ops V d a k).put ((ops[i]?).bind (·.dst)) (V i) else fr ops V d a k
  | 0, _ => by simp [fr]
  | k + 1, h => by
    have ih := fr_put2 V a d i hd k (fun j hj => h j (by omega))
    rw [fr, fr]
    by_cases e : k = i
    · subst e
      rw [don_same, hd, ih, if_neg (show ¬ k < k by omega), if_pos (show k < k + 1 by omega)]
      simp
    · rw [don_other _ _ _ e, ih]
      by_cases h1 : i < k
      · rw [if_pos h1, if_pos (show i < k + 1 by omega)]
        cases hk : d k with
        | false => simp
        | true =>
          simp only [if_true]
          exact Act.put_comm _ _ _ (fun t ht => h k (by omega) hk t ht)
      · rw [if_neg h1, if_neg (show ¬ i < k + 1 by omega)]
def isDN (ks : List Nat) (j : Nat) : Bool := cls ks j == 0 || cls ks j == 1
/-- The value of each that is not of class 2. -/
def VU (ks : List Nat) (V U : Nat → Value) (j : Nat) : Value := if cls ks j = 1 then U j else V j
theorem walk_vals {I : (Nat → Bool) → (Nat → Value) → World → Prop} {E : ((Nat → Value) → Act) → Prop} (ks : List Nat) (a : Act) : ∀ (l : List Oper) (k : List Nat) (m : Nat) (V : Nat → Value), l.length = k.length → (∀ j o, l[j]? = some o → ops[m + j]? = some o) → (∀ j c, k[j]? = some c → cls ks (m + j) = c) → (∀ j, j < k.length → cls ks (m + j) ≤ 2) → Walk P ops I E m l k (fun U => fr ops (VU ks V U) (isDN ks) a m) →
    ∃ V', (∀ j, j < m → V' j = V j) ∧ (∀ j o U, l[j]? = some o → cls ks (m + j) = 0 → DStep P ops I (m + j) o (V' (m + j)) U (fr ops (VU ks V' U) (isDN ks) a (m + j))) ∧ (∀ j o U, l[j]? = some o → cls ks (m + j) = 1 → o.guard = none ∧ NStep P ops I (m + j) o U (fr ops (VU ks V' U) (isDN ks) a (m + j))) ∧ E (fun U => fr ops (VU ks V' U) (isDN ks) a (m + l.length))
  | [], k, m, V, _, _, _, _, h => ⟨V, fun _ _ => rfl, fun j o _ hj => by simp at hj, fun j o _ hj => by simp at hj, by cases k <;> simpa [Walk] using h⟩
  | o :: r, [], m, V, hl, _, _, _, h => absurd hl (by simp)
  | o :: r, c :: k, m, V, hlen, hl, hc, h3, h => by
    have hkm : ops[m]? = some o := by simpa using hl 0 o rfl
    have hcm : cls ks m = c := by simpa using hc 0 c rfl
    have frV : ∀ (V1 V2 U : Nat → Value) (n : Nat), (∀ j, j < n → V1 j = V2 j) → fr ops (VU ks V1 U) (isDN ks) a n = fr ops (VU ks V2 U) (isDN ks) a n := fun V1 V2 U n hv => fr_V a (isDN ks) _ _ n (fun j hj _ => by unfold VU; rw [hv j hj])
    have hl' : ∀ j o', r[j]? = some o' → ops[m + 1 + j]? = some o' := fun j o' hj => by have := hl (j + 1) o' (by simpa using hj); rwa [show m + (j + 1) = m + 1 + j by omega] at this
    have hc' : ∀ j c', k[j]? = some c' → cls ks (m + 1 + j) = c' := fun j c' hj => by have := hc (j + 1) c' (by simpa using hj); rwa [show m + (j + 1) = m + 1 + j by omega] at this
    have h3' : ∀ j, j < k.length → cls ks (m + 1 + j) ≤ 2 := fun j hj => by have := h3 (j + 1) (by simpa using hj); rwa [show m + (j + 1) = m + 1 + j by omega] at this
    unfold Walk at h
    by_cases h0 : c = 0
    · rw [if_pos h0] at h
      obtain ⟨v, h1, h2⟩ := h
      let W : Nat → Value := fun j => if j = m then v else V j
      have hW : (fun U => fr ops (VU ks W U) (isDN ks) a (m + 1)) = fun U => (fr ops (VU ks V U) (isDN ks) a m).put o.dst v := by
        funext U
        rw [fr, frV W V U m (fun j hj => by simp only [W]; rw [if_neg (by omega)])]
        simp [isDN, hcm, h0, hkm, W, VU]
      rw [← hW] at h2
      obtain ⟨V', e1, e2, e3, e4⟩ := walk_vals ks a r k (m + 1) W (by simpa using hlen) hl' hc' h3' h2
      have eV : ∀ U, fr ops (VU ks V' U) (isDN ks) a m = fr ops (VU ks V U) (isDN ks) a m := fun U => frV V' V U m (fun j hj => by rw [e1 j (by omega)]; simp only [W]; rw [if_neg (by omega)])
      refine ⟨V', fun j hj => ?_, fun j o' U hj hcj => ?_, fun j o' U hj hcj => ?_, ?_⟩
      · rw [e1 j (by omega)]; simp only [W]; rw [if_neg (by omega)]
      · cases j with
        | zero =>
          have : o' = o := by simpa using hj.symm
          subst this
          rw [Nat.add_zero, e1 m (by omega), eV]
          simpa [W] using h1 U
        | succ j => rw [show m + (j + 1) = m + 1 + j by omega] at hcj ⊢; exact e2 j o' U (by simpa using hj) hcj
      · cases j with
        | zero => rw [Nat.add_zero, hcm, h0] at hcj; exact absurd hcj (by decide)
        | succ j => rw [show m + (j + 1) = m + 1 + j by omega] at hcj ⊢; exact e3 j o' U (by simpa using hj) hcj
      · rw [show m + (o :: r).length = m + 1 + r.length by simp; omega]; exact e4
    · rw [if_neg h0] at h
      by_cases h1 : c = 1
      · rw [if_pos h1] at h
        obtain ⟨hg, hn, h2⟩ := h
        have hW : (fun U => fr ops (VU ks V U) (isDN ks) a (m + 1)) = fun U => (fr ops (VU ks V U) (isDN ks) a m).put o.dst (U m) := by
          funext U
          rw [fr]
          simp [isDN, hcm, h1, hkm, VU]
        rw [← hW] at h2
        obtain ⟨V', e1, e2, e3, e4⟩ := walk_vals ks a r k (m + 1) V (by simpa using hlen) hl' hc' h3' h2
        have eV : ∀ U, fr ops (VU ks V' U) (isDN ks) a m = fr ops (VU ks V U) (isDN ks) a m := fun U => frV V' V U m (fun j hj => e1 j (by omega))
        refine ⟨V', fun j hj => e1 j (by omega), fun j o' U hj hcj => ?_, fun j o' U hj hcj => ?_, ?_⟩
        · cases j with
          | zero => rw [Nat.add_zero, hcm] at hcj; exact absurd hcj h0
          | succ j => rw [show m + (j + 1) = m + 1 + j by omega] at hcj ⊢; exact e2 j o' U (by simpa using hj) hcj
        · cases j with
          | zero =>
            have : o' = o := by simpa using hj.symm
            subst this
            rw [Nat.add_zero, eV]
            exact ⟨hg, hn U⟩
          | succ j => rw [show m + (j + 1) = m + 1 + j by omega] at hcj ⊢; exact e3 j o' U (by simpa using hj) hcj
        · rw [show m + (o :: r).length = m + 1 + r.length by simp; omega]; exact e4
      · rw [if_neg h1] at h
        have hskip : (fun U => fr ops (VU ks V U) (isDN ks) a (m + 1)) = fun U => fr ops (VU ks V U) (isDN ks) a m := by
          funext U
          rw [fr]; simp [isDN, hcm, h0, h1]
        rw [← hskip] at h
        obtain ⟨V', e1, e2, e3, e4⟩ := walk_vals ks a r k (m + 1) V (by simpa using hlen) hl' hc' h3' h
        refine ⟨V', fun j hj => e1 j (by omega), fun j o' U hj hcj => ?_, fun j o' U hj hcj => ?_, ?_⟩
        · cases j with
          | zero => rw [Nat.add_zero, hcm] at hcj; exact absurd hcj h0
          | succ j => rw [show m + (j + 1) = m + 1 + j by omega] at hcj ⊢; exact e2 j o' U (by simpa using hj) hcj
        · cases j with
          | zero => rw [Nat.add_zero, hcm] at hcj; exact absurd hcj h1
          | succ j => rw [show m + (j + 1) = m + 1 + j by omega] at hcj ⊢; exact e3 j o' U (by simpa using hj) hcj
        · rw [show m + (o :: r).length = m + 1 + r.length by simp; omega]; exact e4
theorem tl_skip : ∀ (l : List Oper) (ks : List Nat) (m n : Nat), m ≤ n → (∀ j, m ≤ j → j < n → ks.getD j 2 ≠ 2) → n ≤ ks.length → l.length = ks.length → tl (l.drop m) (ks.drop m) = tl (l.drop n) (ks.drop n) := by
  intro l ks m n hmn h hn hl
  induction n with
  | zero => have : m = 0 := by omega
            subst this; rfl
  | succ n ih =>
    by_cases e : m = n + 1
    · subst e; rfl
    · rw [ih (by omega) (fun j h1 h2 => h j h1 (by omega)) (by omega)]
      have hk : n < ks.length := by omega
      have hl' : n < l.length := by omega
      rw [List.drop_eq_getElem_cons hl', List.drop_eq_getElem_cons hk, tl, if_neg]
      have := h n (by omega) (by omega)
      rwa [List.getD_eq_getElem?_getD, List.getElem?_eq_getElem hk] at this
theorem tl_here (l : List Oper) (ks : List Nat) (n : Nat) (hl : n < l.length) (hk : n < ks.length) (h : ks.getD n 2 = 2) : tl (l.drop n) (ks.drop n) = l[n] :: tl (l.drop (n + 1)) (ks.drop (n + 1)) := by
  rw [List.drop_eq_getElem_cons hl, List.drop_eq_getElem_cons hk, tl, if_pos]
  rwa [List.getD_eq_getElem?_getD, List.getElem?_eq_getElem hk] at h
theorem wp_region_genI {id : Nat} {a : Act} {w : World} (I : (Nat → Bool) → (Nat → Value) → World → Prop) (ks : List Nat)
    (hm : P.follows .mixedOrders = true) (hok : okC ops ks = true) (h0 : I (fun _ => false) (fun _ => undef) w.drew)
    (hs : Walk P ops I (fun f => ∀ d (U : Nat → Value) w', I d U w' → (∀ j, j < ops.size → d j = decide (cls ks j ≠ 2)) → wpList P ops Q (tl ops.toList ks) (f U) w') 0 ops.toList ks (fun _ => a)) : (Code.region id ops true).wp P Q a w := by
  have hok' := hok
  unfold okC at hok'
  rw [Bool.and_eq_true, Bool.and_eq_true] at hok'
  obtain ⟨⟨he, hlen0⟩, hp⟩ := hok'
  have hlen : ks.length = ops.size := by simpa using hlen0
  have hcget : ∀ j c, ks[j]? = some c → cls ks j = c := fun j c h => by unfold cls; rw [List.getD_eq_getElem?_getD, h]; rfl
  have hgetc : ∀ j c, j < ops.size → cls ks j = c → ks[j]? = some c := fun j c hj h => by
    unfold cls at h
    rw [List.getD_eq_getElem?_getD, List.getElem?_eq_getElem (by omega)] at h
    rw [List.getElem?_eq_getElem (by omega)]
    simpa using h
  have hrow : ∀ i, i < ops.size → ((ops[i]?).map fun o => !isSel o.op).getD true = true ∧ (∀ j, j < ops.size → pairC ops ks i j = true) ∧ (cls ks i = 2 → ∀ j, j < ops.size → (cls ks j = 2 ∧ i ≤ j) ∨ ((masks ops ops.size).getD i 0).testBit j = true) := by
    intro i hi
    have h1 := List.all_eq_true.1 hp i (List.mem_range.2 hi)
    rw [Bool.and_eq_true, Bool.and_eq_true, Bool.and_eq_true] at h1
    refine ⟨h1.1.1.1, fun j hj => List.all_eq_true.1 h1.1.2 j (List.mem_range.2 hj), fun hc j hj => ?_⟩
    have h2 := h1.2
    rw [if_pos hc] at h2
    have h3 := List.all_eq_true.1 h2 j (List.mem_range.2 hj)
    rw [Bool.or_eq_true, Bool.and_eq_true, decide_eq_true_eq, decide_eq_true_eq] at h3
    exact h3
  have hthree : ∀ i, i < ops.size → cls ks i ≤ 2 := by
    intro i hi
    have h1 := List.all_eq_true.1 hp i (List.mem_range.2 hi)
    rw [Bool.and_eq_true, Bool.and_eq_true, Bool.and_eq_true] at h1
    simpa using h1.1.1.2
  obtain ⟨V, _, hstD, hstN, hE⟩ := walk_vals (P := P) (ops := ops) ks a ops.toList ks 0 (fun _ => undef) (by simp [hlen]) (fun j o hj => by simpa using hj) (fun j c hj => by rw [Nat.zero_add]; exact hcget j c hj) (fun j hj => by rw [Nat.zero_add]; exact hthree j (by omega)) hs
  simp only [Nat.zero_add] at hstD hstN hE
  rw [show ops.toList.length = ops.size by simp] at hE
  have pair : ∀ (i j : Nat) (x y : Oper) (t : Nat), ops[i]? = some x → ops[j]? = some y → cls ks i ≠ 2 → cls ks j ≠ 2 → y.dst = some t → (x.dst = some t → i = j) ∧ (t ∈ x.looksAt ops → (j < i ∧ bindsOn x j = true) ∨ (i < j ∧ bindsOn y i = true)) := by
    intro i j x y t hx hy hci hcj ht
    have hi : i < ops.size := (Array.getElem?_eq_some_iff.1 hx).1
    have hj : j < ops.size := (Array.getElem?_eq_some_iff.1 hy).1
    have h2 := (hrow i hi).2.1 j hj
    unfold pairC at h2
    simp only [hx, hy, ht, if_neg hci, if_neg hcj] at h2
    rw [Bool.and_eq_true] at h2
    refine ⟨fun e => ?_, fun hm => ?_⟩
    · have := h2.1
      rw [e] at this
      simpa using this
    · have h3 := h2.2
      by_cases hc1 : cls ks j = 1 ∧ cls ks i = 0
      · rw [if_pos hc1] at h3
        simp at h3
        exact absurd hm h3
      · rw [if_neg hc1] at h3
        simp at h3
        rcases h3 with (h | h) | h
        · exact absurd hm h
        · exact .inl h
        · exact .inr h
  have nosel : ∀ (i : Nat) (x : Oper) cs b, ops[i]? = some x → x.op ≠ .select cs b := by
    intro i x cs b hx hc
    have hi : i < ops.size := (Array.getElem?_eq_some_iff.1 hx).1
    have h1 := (hrow i hi).1
    rw [hx] at h1
    simp [hc, isSel] at h1
  have deps : ∀ (d : Nat → Bool) (i : Nat) (o : Oper), may ops d i → ops[i]? = some o → ∀ e, e ∈ o.after → Region.binds .any e = true → d e.on = true := by
    intro d i o hmay ho e h1 h2
    have := hmay.2 o ho
    rw [Array.all_eq_true_iff_forall_mem] at this
    have := this e h1
    rw [h2] at this
    simpa using this
  have tailb : ∀ (d : Nat → Bool) (i : Nat), Closed ops d → cls ks i = 2 → i < ops.size → may ops d i → ∀ j, j < ops.size → (cls ks j ≠ 2 ∨ j < i) → d j = true := by
    intro d i hcl hc hi hmay j hj hor
    rcases (hrow i hi).2.2 hc j hj with ⟨h1, h2⟩ | h
    · rcases hor with h3 | h3
      · exact absurd h1 h3
      · omega
    · rw [masks_get ops ops.size i hi] at h
      exact mask_done he d hcl ops.size i hi (Nat.le_refl _) (fun o ho => deps d i o hmay ho) j h
  let J1 : (Nat → Bool) → Act → World → Prop := fun d x wx => ∃ U : Nat → Value, x = fr ops (VU ks V U) d a ops.size ∧ I d U wx ∧ Closed ops d ∧ (∀ j, cls ks j = 2 → d j = false) ∧ ∃ j, j < ops.size ∧ cls ks j ≠ 2 ∧ d j = false
  let J2 : (Nat → Bool) → Act → World → Prop := fun d x wx => ∃ m, m ≤ ops.size ∧ Closed ops d ∧ (∀ j, j < ops.size → d j = (decide (cls ks j ≠ 2) || decide (j < m))) ∧ wpList P ops Q (tl (ops.toList.drop m) (ks.drop m)) x wx
  have enter : ∀ d x wx (U : Nat → Value), x = fr ops (VU ks V U) d a ops.size → I d U wx → Closed ops d → (∀ j, cls ks j = 2 → d j = false) → (∀ j, j < ops.size → cls ks j ≠ 2 → d j = true) → J2 d x wx := by
    intro d x wx U hx hIw hcl hf htr
    have hdd : ∀ j, j < ops.size → d j = decide (cls ks j ≠ 2) := fun j hj => by
      by_cases hc : cls ks j = 2
      · rw [hf j hc, hc]; simp
      · rw [htr j hj hc]; simp [hc]
    refine ⟨0, Nat.zero_le _, hcl, fun j hj => ?_, ?_⟩
    · by_cases hc : cls ks j = 2
      · rw [hf j hc, hc]; simp
      · rw [htr j hj hc]; simp [hc]
    · have h1 := hE d U wx hIw hdd
      rw [List.drop_zero, List.drop_zero, hx, fr_congr (VU ks V U) a d (isDN ks) ops.size (fun j hj => ?_)]
      · exact h1
      · by_cases hc : cls ks j = 2
        · rw [hf j hc]; simp [isDN, hc]
        · rw [htr j hj hc]
          unfold isDN
          have h3c := hthree j hj
          by_cases h0c : cls ks j = 0
          · simp [h0c]
          · by_cases h1c : cls ks j = 1
            · simp [h1c]
            · omega
  refine wp_region_inv (fun d x wx => J1 d x wx ∨ J2 d x wx) hm he ?_ ?_ ?_
  · have hz : ∀ V', fr ops V' (fun _ => false) a ops.size = a := by
      intro V'
      have : ∀ k, fr ops V' (fun _ => false) a k = a := by
        intro k
        induction k with
        | zero => rfl
        | succ k ih => rw [fr, ih]; simp
      exact this _
    have hcl0 : Closed ops (fun _ => false) := fun _ _ _ h => by cases h
    by_cases hall : ∀ j, j < ops.size → cls ks j = 2
    · exact .inr (enter _ _ _ (fun _ => undef) (hz _).symm h0 hcl0 (fun _ _ => rfl) (fun j hj h => absurd (hall j hj) h))
    · rw [Classical.not_forall] at hall
      obtain ⟨j, hj⟩ := hall
      rw [Classical.not_imp] at hj
      exact .inl ⟨fun _ => undef, (hz _).symm, h0, hcl0, (fun _ _ => rfl), j, hj.1, hj.2, rfl⟩
  · rintro d x wx i (⟨U, rfl, hI, hcl, hfz, j0, hj0, hcj0, hdj0⟩ | ⟨m, hm', hcl, hd, hw⟩) hi hmay
    · have hci : cls ks i ≠ 2 := by
        intro h
        have := tailb d i hcl h hi hmay j0 hj0 (.inl hcj0)
        rw [hdj0] at this; cases this
      obtain ⟨o, ho⟩ : ∃ o, ops[i]? = some o := ⟨ops[i], Array.getElem?_eq_getElem hi⟩
      have hdeps := deps d i o hmay ho
      have hput : ∀ (V' : Nat → Value) v, v = V' i → (fr ops V' d a ops.size).put o.dst v = fr ops V' (don d i) a ops.size := by
        rintro V' v rfl
        rw [fr_put2 V' a d i hmay.1 ops.size (fun j hj hdj t ht => fun hjt => ?_), if_pos hi, ho]
        · rfl
        · obtain ⟨y, hy⟩ : ∃ y, ops[j]? = some y := ⟨ops[j], Array.getElem?_eq_getElem hj⟩
          rw [hy] at hjt
          rw [ho] at ht
          have hcj : cls ks j ≠ 2 := by intro h; rw [hfz j h] at hdj; cases hdj
          have := (pair i j o y t ho hy hci hcj hjt).1 ht
          subst this
          rw [hmay.1] at hdj; cases hdj
      have hclo : Closed ops (don d i) := by
        intro j o' hj hdj e e1 e2
        have : d e.on = true := by
          by_cases hji : j = i
          · subst hji
            rw [ho] at hj
            cases hj
            exact hdeps e e1 e2
          · rw [don_other _ _ _ hji] at hdj
            exact hcl j o' hj hdj e e1 e2
        unfold don; split
        · rfl
        · exact this
      have hnext : ∀ (U' : Nat → Value) x w', x = fr ops (VU ks V U') (don d i) a ops.size → I (don d i) U' w' → J1 (don d i) x w' ∨ J2 (don d i) x w' := by
        intro U' x w' hx hI'
        have hf' : ∀ j, cls ks j = 2 → don d i j = false := fun j hj => by
          have hji : j ≠ i := by intro e; subst e; exact hci hj
          rw [don_other _ _ _ hji]; exact hfz j hj
        by_cases hall : ∀ j, j < ops.size → cls ks j ≠ 2 → don d i j = true
        · exact .inr (enter _ _ _ U' hx hI' hclo hf' hall)
        · refine .inl ⟨U', hx, hI', hclo, hf', ?_⟩
          rw [Classical.not_forall] at hall
          obtain ⟨j, hj⟩ := hall
          rw [Classical.not_imp, Classical.not_imp] at hj
          exact ⟨j, hj.1, hj.2.1, by simpa using hj.2.2⟩
      have hsame : ∀ t, t ∈ o.looksAt ops → (fr ops (VU ks V U) d a ops.size).tmps[t]? = (fr ops (VU ks V U) (isDN ks) a i).tmps[t]? := by
        intro t ht
        have := fr_get2 (ops := ops) (VU ks V U) a d (isDN ks) i t ops.size (fun j hj hjt => by
          obtain ⟨y, hy⟩ : ∃ y, ops[j]? = some y := ⟨ops[j], Array.getElem?_eq_getElem hj⟩
          rw [hy] at hjt
          by_cases hc2 : cls ks j = 2
          · exact .inr ⟨hfz j hc2, .inl (by simp [isDN, hc2])⟩
          · have hdn : isDN ks j = true := by
              have := hthree j hj
              unfold isDN
              by_cases h0c : cls ks j = 0
              · simp [h0c]
              · have : cls ks j = 1 := by omega
                simp [this]
            rcases (pair i j o y t ho hy hci hc2 hjt).2 ht with ⟨h1, h2⟩ | ⟨h1, h2⟩
            · obtain ⟨e, e1, e2, e3⟩ := bindsOn_spec h2
              exact .inl ⟨h1, e3 ▸ hdeps e e1 e2, hdn⟩
            · refine .inr ⟨?_, .inr (by omega)⟩
              cases hdj : d j with
              | false => rfl
              | true =>
                obtain ⟨e, e1, e2, e3⟩ := bindsOn_spec h2
                have := hcl j y hy hdj e e1 e2
                rw [e3, hmay.1] at this; cases this)
        rw [this, show min ops.size i = i by omega]
      have hex : execOp (fr ops (VU ks V U) d a ops.size).eval o = execOp (fr ops (VU ks V U) (isDN ks) a i).eval o := by
        refine execOp_congr o (fun cs b => nosel i o cs b ho) (fun x hx => ?_)
        cases x with
        | tmp t => exact eval_get (hsame t (mem_looks hx))
        | _ => rfl
      have hwa := wanted_get hsame
      by_cases hc0 : cls ks i = 0
      · have hVi : V i = VU ks V U i := by unfold VU; rw [if_neg (by omega)]
        unfold wpOp
        rw [ho]
        simp only
        rcases hstD i o U (by simpa using ho) hc0 with ⟨h1, h2⟩ | ⟨h1, h2, h3⟩
        · rw [hwa, h1, if_pos rfl]
          refine .inl ?_
          unfold Oper.wp
          rw [hex]
          exact upv_upon (h2 _ d wx hI hmay (fun w' hI' => hnext U _ _ (hput _ _ hVi) hI'))
        · rw [hwa, h1]
          simp only [Bool.false_eq_true, if_false]
          exact hnext U _ _ (hput _ _ (h2.symm.trans hVi)) (h3 d wx hI hmay)
      · have hc1 : cls ks i = 1 := by have := hthree i hi; omega
        obtain ⟨hg, hrun⟩ := hstN i o U (by simpa using ho) hc1
        unfold wpOp
        rw [ho]
        simp only
        rw [if_pos (show Region.wanted o (yielded ops (fr ops (VU ks V U) d a ops.size).tmps) = true by simp [Region.wanted, hg])]
        refine .inl ?_
        unfold Oper.wp
        rw [hex]
        refine upv_upon (hrun _ d wx hI hmay (fun v w' hI' => ?_))
        have hU : ∀ j, j ≠ i → updU U i v j = U j := fun j hj => by unfold updU; rw [if_neg hj]
        have hUi : updU U i v i = v := by simp [updU]
        have hfr : fr ops (VU ks V U) d a ops.size = fr ops (VU ks V (updU U i v)) d a ops.size := fr_V a d _ _ _ (fun j _ hdj => by
          have hji : j ≠ i := by intro e; subst e; rw [hmay.1] at hdj; cases hdj
          unfold VU; rw [hU j hji])
        have hval : v = VU ks V (updU U i v) i := by unfold VU; rw [if_pos hc1, hUi]
        exact hnext (updU U i v) _ _ (by rw [hfr]; exact hput _ _ hval) hI'
    · have hci : cls ks i = 2 := by
        have h1 := hd i hi
        rw [hmay.1] at h1
        by_cases hc : cls ks i = 2
        · exact hc
        · simp [hc] at h1
      have him : ¬ i < m := by
        intro h
        have h1 := hd i hi
        rw [hmay.1, decide_eq_true h] at h1
        simp at h1
      have hbefore := tailb d i hcl hci hi hmay
      have hnone : ∀ j, m ≤ j → j < i → ks.getD j 2 ≠ 2 := by
        intro j h1 h2 h3
        have h4 := hbefore j (by omega) (.inr h2)
        rw [hd j (by omega)] at h4
        have : cls ks j = 2 := h3
        rw [this, decide_eq_false (show ¬ j < m by omega)] at h4
        simp at h4
      have hlo : ops.toList.length = ks.length := by simp [hlen]
      rw [tl_skip ops.toList ks m i (by omega) hnone (by omega) hlo, tl_here ops.toList ks i (by simpa using hi) (by omega) hci] at hw
      have hcloD : Closed ops (don d i) := by
        obtain ⟨o, ho⟩ : ∃ o, ops[i]? = some o := ⟨ops[i], Array.getElem?_eq_getElem hi⟩
        intro j o' hj hdj e e1 e2
        have : d e.on = true := by
          by_cases hji : j = i
          · subst hji; exact deps d j o' hmay hj e e1 e2
          · rw [don_other _ _ _ hji] at hdj
            exact hcl j o' hj hdj e e1 e2
        unfold don; split
        · rfl
        · exact this
      have key : ∀ x' w', wpList P ops Q (tl (ops.toList.drop (i + 1)) (ks.drop (i + 1))) x' w' → J1 (don d i) x' w' ∨ J2 (don d i) x' w' := fun x' w' h => .inr ⟨i + 1, by omega, hcloD, fun j hj => by
        by_cases hji : j = i
        · subst hji; rw [don_same]; simp
        · rw [don_other _ _ _ hji, hd j hj]
          by_cases hc : cls ks j = 2
          · have e : decide (j < m) = decide (j < i + 1) := by
              rw [decide_eq_decide]
              constructor
              · intro _; omega
              · intro h1
                rcases Nat.lt_or_ge j m with h2 | h2
                · exact h2
                · exact absurd hc (hnone j h2 (by omega))
            rw [e]
          · simp [hc], h⟩
      refine wpOp_mono key ?_
      unfold wpOp
      rw [Array.getElem?_eq_getElem hi]
      rw [show ops.toList[i] = ops[i] by simp] at hw
      exact hw
  · rintro d x wx (⟨_, _, _, _, _, j, hj, _, hdj⟩ | ⟨m, hm', hcl, hd, hw⟩) hall
    · have := hall j hj
      rw [hdj] at this; cases this
    · have hlo : ops.toList.length = ks.length := by simp [hlen]
      rw [tl_skip ops.toList ks m ops.size hm' (fun j h1 h2 h3 => by
        have h4 := hall j h2
        rw [hd j h2] at h4
        have : cls ks j = 2 := h3
        rw [this, decide_eq_false (show ¬ j < m by omega)] at h4
        simp at h4) (by omega) hlo, List.drop_eq_nil_of_le (by simp)] at hw
      unfold tl at hw
      exact hw
section
variable {I : (Nat → Bool) → (Nat → Value) → World → Prop} {E : ((Nat → Value) → Act) → Prop} {j : Nat} {o : Oper} {r : List Oper} {k : List Nat} {f f' : (Nat → Value) → Act} {v : Value}
theorem goD (hg : o.guard = none) (h : ∀ U (K : Value → World → Prop) d w, I d U w → may ops d j → (∀ w', I (don d j) U w' → K v w') → upv P K ((execOp (f U).eval o).run P w)) (he : ∀ U, (f U).put o.dst v = f' U)
    (hr : Walk P ops I E (j + 1) r k f') : Walk P ops I E j (o :: r) (0 :: k) f := by
  unfold Walk
  rw [if_pos rfl]
  have e : (fun U => (f U).put o.dst v) = f' := funext he
  exact ⟨v, fun U => .inl ⟨by simp [Region.wanted, hg], h U⟩, e ▸ hr⟩
theorem goDg (hg : ∀ U, Region.wanted o (yielded ops (f U).tmps) = true) (h : ∀ U (K : Value → World → Prop) d w, I d U w → may ops d j → (∀ w', I (don d j) U w' → K v w') → upv P K ((execOp (f U).eval o).run P w)) (he : ∀ U, (f U).put o.dst v = f' U)
    (hr : Walk P ops I E (j + 1) r k f') : Walk P ops I E j (o :: r) (0 :: k) f := by
  unfold Walk
  rw [if_pos rfl]
  have e : (fun U => (f U).put o.dst v) = f' := funext he
  exact ⟨v, fun U => .inl ⟨hg U, h U⟩, e ▸ hr⟩
theorem goD0 (hg : ∀ U, Region.wanted o (yielded ops (f U).tmps) = false) (h : ∀ U d w, I d U w → may ops d j → I (don d j) U w) (he : ∀ U, (f U).put o.dst undef = f' U)
    (hr : Walk P ops I E (j + 1) r k f') : Walk P ops I E j (o :: r) (0 :: k) f := by
  unfold Walk
  rw [if_pos rfl]
  have e : (fun U => (f U).put o.dst undef) = f' := funext he
  exact ⟨undef, fun U => .inr ⟨hg U, rfl, h U⟩, e ▸ hr⟩
theorem goN (hg : o.guard = none) (h : ∀ U (K : Value → World → Prop) d w, I d U w → may ops d j → (∀ v w', I (don d j) (updU U j v) w' → K v w') → upv P K ((execOp (f U).eval o).run P w)) (he : ∀ U, (f U).put o.dst (U j) = f' U)
    (hr : Walk P ops I E (j + 1) r k f') : Walk P ops I E j (o :: r) (1 :: k) f := by
  unfold Walk
  rw [if_neg (by decide), if_pos rfl]
  have e : (fun U => (f U).put o.dst (U j)) = f' := funext he
  exact ⟨hg, h, e ▸ hr⟩
theorem goT (hr : Walk P ops I E (j + 1) r k f) : Walk P ops I E j (o :: r) (2 :: k) f := by
  unfold Walk
  rw [if_neg (by decide), if_neg (by decide)]
  exact hr
theorem go_end (h : E f) : Walk P ops I E j [] [] f := by
  unfold Walk; exact h
end
end RH
end Go.Proofs.YtlpdendoibdceaaDoor
/- A region that draws its order and makes two words: 'q, r := f(..)': the variables are made whenever, each word is laid into its own behind it. -/
namespace Go.Proofs.YtlpdendoibdceaaDoor
namespace T2
open Go.RowKit RI RH RN
/-- a, b: which operations make the variables; s, t: which ones lay the words Q and r. -/
structure Inv (w : World) (L : List Hm.Bk) (a b s t Q r : Nat) (d : Nat → Bool) (U : Nat → Value) (wx : World) : Prop where
  hd : Hm.Hd w L wx
  g : d a = true → ∃ g, U a = pv g ∧ Hm.Ok w.heap.size (Hm.W4 g (if d s = true then Q else 0)) wx ∧ ∀ k, k ∈ L → g ≠ k.g
  h : d b = true → ∃ h, U b = pv h ∧ Hm.Ok w.heap.size (Hm.W4 h (if d t = true then r else 0)) wx ∧ ∀ k, k ∈ L → h ≠ k.g
  ne : d a = true → d b = true → U a ≠ U b
  cs : d s = true → d a = true
  ct : d t = true → d b = true
variable {w : World} {L : List Hm.Bk} {a b s t Q r : Nat} {d : Nat → Bool} {U : Nat → Value} {wx w2 : World}
theorem start (h : Hm.Hd w L wx) : Inv w L a b s t Q r (fun _ => false) (fun _ => undef) wx := ⟨h, nofun, nofun, nofun, nofun, nofun⟩
theorem keep {i : Nat} (hI : Inv w L a b s t Q r d U wx) (hb : Below wx.heap.size wx w2) (ha : a ≠ i) (h2 : b ≠ i) (h3 : s ≠ i) (h4 : t ≠ i) : Inv w L a b s t Q r (don d i) U w2 := by
  refine ⟨Hm.below hI.hd hb, ?_, ?_, ?_, ?_, ?_⟩
  · rw [don_other _ _ _ ha, don_other _ _ _ h3]
    intro k
    obtain ⟨g, e, ok, hn⟩ := hI.g k
    exact ⟨g, e, Hm.Ok_below ok hb, hn⟩
  · rw [don_other _ _ _ h2, don_other _ _ _ h4]
    intro k
    obtain ⟨g, e, ok, hn⟩ := hI.h k
    exact ⟨g, e, Hm.Ok_below ok hb, hn⟩
  · rw [don_other _ _ _ ha, don_other _ _ _ h2]; exact hI.ne
  · rw [don_other _ _ _ h3, don_other _ _ _ ha]; exact hI.cs
  · rw [don_other _ _ _ h4, don_other _ _ _ h2]; exact hI.ct
theorem updU_s (U : Nat → Value) (i : Nat) (v : Value) : updU U i v i = v := by simp [updU]
theorem updU_o (U : Nat → Value) {i j : Nat} (v : Value) (h : j ≠ i) : updU U i v j = U j := by simp [updU, h]
theorem pv_inj {g h : Nat} (e : pv g = pv h) : g = h := by
  unfold pv at e
  simpa using e
theorem new1 (hI : Inv w L a b s t Q r d U wx) (hb : Below wx.heap.size wx w2) (hf : Hm.Fresh w L wx.heap.size w2) (hd : d a = false) (h2 : b ≠ a) (h3 : s ≠ a) (h4 : t ≠ a) :
    Inv w L a b s t Q r (don d a) (updU U a (pv wx.heap.size)) w2 := by
  have hs : d s = false := by
    cases e : d s with
    | false => rfl
    | true => have := hI.cs e; rw [hd] at this; cases this
  refine ⟨Hm.below hI.hd hb, ?_, ?_, ?_, ?_, ?_⟩
  · intro _
    rw [don_other _ _ _ h3, hs]
    exact ⟨wx.heap.size, updU_s _ _ _, by simpa using hf.ok, hf.ne⟩
  · rw [don_other _ _ _ h2, don_other _ _ _ h4, updU_o _ _ h2]
    intro k
    obtain ⟨g, e, ok, hn⟩ := hI.h k
    exact ⟨g, e, Hm.Ok_below ok hb, hn⟩
  · rw [don_other _ _ _ h2, updU_o _ _ h2, updU_s]
    intro _ k e
    obtain ⟨g, e2, ok, _⟩ := hI.h k
    rw [e2] at e
    have := pv_inj e
    have h5 : g < wx.heap.size := ok.hi
    omega
  · rw [don_other _ _ _ h3]; intro _; exact don_same _ _
  · rw [don_other _ _ _ h4, don_other _ _ _ h2]; exact hI.ct
theorem new2 (hI : Inv w L a b s t Q r d U wx) (hb : Below wx.heap.size wx w2) (hf : Hm.Fresh w L wx.heap.size w2) (hd : d b = false) (h2 : a ≠ b) (h3 : s ≠ b) (h4 : t ≠ b) :
    Inv w L a b s t Q r (don d b) (updU U b (pv wx.heap.size)) w2 := by
  have hs : d t = false := by
    cases e : d t with
    | false => rfl
    | true => have := hI.ct e; rw [hd] at this; cases this
  refine ⟨Hm.below hI.hd hb, ?_, ?_, ?_, ?_, ?_⟩
  · rw [don_other _ _ _ h2, don_other _ _ _ h3, updU_o _ _ h2]
    intro k
    obtain ⟨g, e, ok, hn⟩ := hI.g k
    exact ⟨g, e, Hm.Ok_below ok hb, hn⟩
  · intro _
    rw [don_other _ _ _ h4, hs]
    exact ⟨wx.heap.size, updU_s _ _ _, by simpa using hf.ok, hf.ne⟩
  · rw [don_other _ _ _ h2, updU_o _ _ h2, updU_s]
    intro k _ e
    obtain ⟨g, e2, ok, _⟩ := hI.g k
    rw [e2] at e
    have := pv_inj e
    have h5 : g < wx.heap.size := ok.hi
    omega
  · rw [don_other _ _ _ h3, don_other _ _ _ h2]; exact hI.cs
  · rw [don_other _ _ _ h4]; intro _; exact don_same _ _
abbrev set4w (wx : World) (g m : Nat) : World := (((wx.setCell ⟨g, 0, none⟩ (.int .u64 (dg m 0))).setCell ⟨g, 1, none⟩ (.int .u64 (dg m 1))).setCell ⟨g, 2, none⟩ (.int .u64 (dg m 2))).setCell ⟨g, 3, none⟩ (.int .u64 (dg m 3))
theorem ok_set4 {g m k n : Nat} (h : Hm.Ok w.heap.size (Hm.W4 k n) wx) (hne : g ≠ k) : Hm.Ok w.heap.size (Hm.W4 k n) (set4w wx g m) :=
  Hm.Ok_other (Hm.Ok_other (Hm.Ok_other (Hm.Ok_other h hne) hne) hne) hne
theorem st1 (hI : Inv w L a b s t Q r d U wx) {g : Nat} {v : Value} (hg : U a = pv g) (hda : d a = true) (h1 : a ≠ s) (h2 : b ≠ s) (h4 : t ≠ s) :
    Inv w L a b s t Q r (don d s) (updU U s v) (set4w wx g Q) := by
  obtain ⟨g', e, ok, hn⟩ := hI.g hda
  rw [hg] at e
  obtain rfl := pv_inj e
  have c : Hm.Hd w (Hm.W4 g (if d s = true then Q else 0) :: L) wx := ⟨hI.hd.bel, fun k hk => by
    rcases List.mem_cons.1 hk with rfl | hk
    · exact ok
    · exact hI.hd.ok k hk⟩
  have c2 := Hm.set4 (m := Q) c hn
  refine ⟨Hm.sub c2 (fun k hk => List.mem_cons_of_mem _ hk), ?_, ?_, ?_, ?_, ?_⟩
  · intro _
    rw [updU_o _ _ h1, don_same, if_pos rfl]
    exact ⟨g, hg, c2.ok _ (List.mem_cons_self ..), hn⟩
  · rw [don_other _ _ _ h2, don_other _ _ _ h4, updU_o _ _ h2]
    intro k
    obtain ⟨h, e3, ok3, hn3⟩ := hI.h k
    have hgh : g ≠ h := fun e4 => hI.ne hda k (by rw [hg, e3, e4])
    exact ⟨h, e3, ok_set4 ok3 hgh, hn3⟩
  · rw [don_other _ _ _ h1, don_other _ _ _ h2, updU_o _ _ h1, updU_o _ _ h2]; exact hI.ne
  · rw [don_other _ _ _ h1]; exact fun _ => hda
  · rw [don_other _ _ _ h4, don_other _ _ _ h2]; exact hI.ct
theorem st2 (hI : Inv w L a b s t Q r d U wx) {g : Nat} {v : Value} (hg : U b = pv g) (hdb : d b = true) (h1 : b ≠ t) (h2 : a ≠ t) (h4 : s ≠ t) :
    Inv w L a b s t Q r (don d t) (updU U t v) (set4w wx g r) := by
  obtain ⟨g', e, ok, hn⟩ := hI.h hdb
  rw [hg] at e
  obtain rfl := pv_inj e
  have c : Hm.Hd w (Hm.W4 g (if d t = true then r else 0) :: L) wx := ⟨hI.hd.bel, fun k hk => by
    rcases List.mem_cons.1 hk with rfl | hk
    · exact ok
    · exact hI.hd.ok k hk⟩
  have c2 := Hm.set4 (m := r) c hn
  refine ⟨Hm.sub c2 (fun k hk => List.mem_cons_of_mem _ hk), ?_, ?_, ?_, ?_, ?_⟩
  · rw [don_other _ _ _ h2, don_other _ _ _ h4, updU_o _ _ h2]
    intro k
    obtain ⟨h, e3, ok3, hn3⟩ := hI.g k
    have hgh : g ≠ h := fun e4 => hI.ne k hdb (by rw [hg, e3, e4])
    exact ⟨h, e3, ok_set4 ok3 hgh, hn3⟩
  · intro _
    rw [updU_o _ _ h1, don_same, if_pos rfl]
    exact ⟨g, hg, c2.ok _ (List.mem_cons_self ..), hn⟩
  · rw [don_other _ _ _ h1, don_other _ _ _ h2, updU_o _ _ h1, updU_o _ _ h2]; exact hI.ne
  · rw [don_other _ _ _ h4, don_other _ _ _ h2]; exact hI.cs
  · rw [don_other _ _ _ h1]; exact fun _ => hdb
theorem done (hI : Inv w L a b s t Q r d U wx) (ha : d a = true) (hb : d b = true) (hs : d s = true) (ht : d t = true) :
    ∃ g h, U a = pv g ∧ U b = pv h ∧ g ≠ h ∧ Hm.Hd w (Hm.W4 h r :: Hm.W4 g Q :: L) wx ∧ (∀ k, k ∈ L → g ≠ k.g) ∧ ∀ k, k ∈ L → h ≠ k.g := by
  obtain ⟨g, e1, o1, n1⟩ := hI.g ha
  obtain ⟨h, e2, o2, n2⟩ := hI.h hb
  rw [if_pos hs] at o1
  rw [if_pos ht] at o2
  refine ⟨g, h, e1, e2, fun e => hI.ne ha hb (by rw [e1, e2, e]), ⟨hI.hd.bel, fun k hk => ?_⟩, n1, n2⟩
  rcases List.mem_cons.1 hk with rfl | hk
  · exact o2
  · rcases List.mem_cons.1 hk with rfl | hk
    · exact o1
    · exact hI.hd.ok k hk
end T2
end Go.Proofs.YtlpdendoibdceaaDoor
/- lampbearerref.XNumber. -/
namespace Go.Proofs.YtlpdendoibdceaaDoor
open Go.RowKit
/-- What holds at each round: q is left, x is written. -/
structure XI (a q : Nat) (x : List UInt8) : Prop where
  b : q < 2 ^ 256
  g : Gds x
  z : x = [] ∨ q ≠ 0
  e : a = q * 16 ^ x.length + hv 0 x
  l : x.length < 64 ∨ q = 0
theorem xi_len {a q : Nat} {x : List UInt8} (ha : a < 2 ^ 256) (hq : q ≠ 0) (e : a = q * 16 ^ x.length + hv 0 x) : x.length < 64 := by
  rcases Nat.lt_or_ge x.length 64 with h | h
  · exact h
  · have h2 : (16 : Nat) ^ 64 ≤ 16 ^ x.length := Nat.pow_le_pow_right (by decide) h
    rw [pow_64] at h2
    have h3 : 1 * 16 ^ x.length ≤ q * 16 ^ x.length := Nat.mul_le_mul_right _ (by omega)
    omega
theorem hv_dsg (r : Nat) (hr : r < 16) (x : List UInt8) : hv 0 (dsg r :: x) = r * 16 ^ x.length + hv 0 x := by rw [hv_cons, dv_dsg r hr]
theorem xi_sum (q : Nat) (P H : Nat) : q * P + H = (q / 16) * (P * 16) + (q % 16 * P + H) := by
  have e : q = q / 16 * 16 + q % 16 := by omega
  have e2 : q * P = q / 16 * (P * 16) + q % 16 * P := by
    conv => lhs; rw [e]
    rw [Nat.add_mul, Nat.mul_assoc, Nat.mul_comm 16 P]
  omega
theorem gds_cons {c : UInt8} {x : List UInt8} (hc : gd c) (hx : Gds x) : Gds (c :: x) := fun d hd => by
  rcases List.mem_cons.1 hd with rfl | hd
  · exact hc
  · exact hx d hd
theorem xi_next {a q : Nat} {x : List UInt8} (ha : a < 2 ^ 256) (h : XI a q x) (hq : q / 16 ≠ 0) : XI a (q / 16) (dsg (q % 16) :: x) := by
  have e : a = q / 16 * 16 ^ (dsg (q % 16) :: x).length + hv 0 (dsg (q % 16) :: x) := by
    rw [List.length_cons, Nat.pow_succ, hv_dsg _ (by omega), h.e]
    exact xi_sum q _ _
  exact ⟨by have := h.b; omega, gds_cons (gd_dsg _ (by omega)) h.g, .inr hq, e, .inl (xi_len ha hq e)⟩
theorem dsg_ne (d : Nat) (h : d < 16) (h0 : d ≠ 0) : dsg d ≠ 48 := by
  intro e
  have := dv_dsg d h
  rw [e, dv_48] at this
  omega
theorem xi_end {a q : Nat} {x : List UInt8} (ha : a < 2 ^ 256) (h : XI a q x) (hq : q / 16 = 0) : dsg (q % 16) :: x = nw a := by
  have e : q % 16 = q := by omega
  have h16 : q < 16 := by omega
  rw [e]
  refine cn_inj _ _ ⟨gds_cons (gd_dsg _ h16) h.g, ?_⟩ (nw_cn a) (by rw [nw_hv a ha, hv_dsg _ h16, ← h.e])
  by_cases h0 : q = 0
  · subst h0
    rcases h.z with hx | hx
    · subst hx
      exact .inl rfl
    · exact absurd rfl hx
  · exact .inr ⟨_, _, rfl, dsg_ne q h16 h0⟩
theorem xi_short {a q : Nat} {x : List UInt8} (h : XI a q x) : x.length ≤ 64 := by
  rcases h.l with h1 | h1
  · omega
  · rcases h.z with h2 | h2
    · rw [h2]; exact Nat.zero_le _
    · exact absurd h1 h2
theorem dig_ext : ∀ r : Nat, r < 16 → (({ data := #[48, 49, 50, 51, 52, 53, 54, 55, 56, 57, 97, 98, 99, 100, 101, 102] } : ByteArray).extract r (r + 1)).data = [dsg r].toArray := by decide +kernel
theorem dig_ext' (r : Nat) (h : r < 16) : ({ data := #[48, 49, 50, 51, 52, 53, 54, 55, 56, 57, 97, 98, 99, 100, 101, 102] } : ByteArray).extract r (r + 1) = ⟨[dsg r].toArray⟩ := by
  have := dig_ext r h
  cases hx : ({ data := #[48, 49, 50, 51, 52, 53, 54, 55, 56, 57, 97, 98, 99, 100, 101, 102] } : ByteArray).extract r (r + 1)
  rw [hx] at this
  rw [← this]
set_option maxHeartbeats 1000000 in
set_option maxRecDepth 100000 in
theorem xnumber_any (a : Nat) (ha : a < 2 ^ 256) (w : World) :
    Calls Tryd.prog 11 #[Wd a] w fun e w' => e = .returned (.string ⟨(48 :: 120 :: nw a).toArray⟩) ∧ Below w.heap.size w w' := by
  have KI : Hid (∀ w : World, Calls Tryd.prog 26 #[.int .u64 16] w fun e w' => e = .returned (Wd 16) ∧ Below w.heap.size w w') := fun w => wint_any 16 (by decide) w
  have m0 := Hm.new4 (g := w.heap.size) (n := a) (T := 24) (Hm.start w) (by simp)
  have HA : Hid (a < 2 ^ 256) := ha
  clear ha
  conv => arg 3; unfold Wd
  go_enter Tryd.func11, Tryd.ntmps11
  go_wp2_with fail
  generalize w.alloc (.cells #[.int .u64 (dg a 0), .int .u64 (dg a 1), .int .u64 (dg a 2), .int .u64 (dg a 3)] 24) = W0 at m0 ⊢
  go_loopw [3] (fun s wr => ∃ (q : Nat) (x : List UInt8), s = .string ⟨x.toArray⟩ ∧ XI a q x ∧ Hm.Hd w [Hm.W4 w.heap.size q] wr) (fun s _ => 65 - vlen s)
  case atStart => exact ⟨a, [], rfl, ⟨HA.out, (fun _ h => by cases h), .inl rfl, (by simp [hv]), .inl (by decide)⟩, m0⟩
  case round =>
    clear m0
    obtain ⟨q, x, rfl, hx, hm⟩ := hrel
    have KD : Hid (∀ w : World, Calls Tryd.prog 25 #[Wd q, Wd 16] w fun e w' => e = .returned (.tuple #[Wd (q / 16), Wd (q % 16)]) ∧ Below w.heap.size w w') := fun w => by
      have k := wdivmod_any q 16 hx.b (by decide) w
      rwa [show md q 16 = q % 16 from if_neg (by decide)] at k
    have HX : Hid (XI a q x) := hx
    have HR : Hid (q % 16 < 16) := Nat.mod_lt _ (by decide)
    have HE : Hid (∀ w : World, (Op.stringOp .add ⟨[dsg (q % 16)].toArray⟩ ⟨x.toArray⟩).run Tryd.prog w = .ok (.string ⟨(dsg (q % 16) :: x).toArray⟩) w) := fun w => run_string_add_lists w [dsg (q % 16)] x (by rw [List.length_singleton]; decide) (by have := xi_short hx; omega)
    have HG : Hid (∀ w : World, (Op.stringOp .add ⟨#[48, 120]⟩ ⟨(dsg (q % 16) :: x).toArray⟩).run Tryd.prog w = .ok (.string ⟨(48 :: 120 :: dsg (q % 16) :: x).toArray⟩) w) := fun w => run_string_add_lists w [48, 120] (dsg (q % 16) :: x) (by decide) (by have := xi_short hx; rw [List.length_cons]; omega)
    have HN : Hid (q / 16 ≠ 0 → XI a (q / 16) (dsg (q % 16) :: x)) := fun h => xi_next HA.out hx h
    have HF : Hid (q / 16 = 0 → dsg (q % 16) :: x = nw a) := fun h => xi_end HA.out hx h
    have HQ : Hid (q / 16 < 2 ^ 256) := by have := hx.b; show _ < _; omega
    have HS : Hid (x.length < 65) := by have := xi_short hx; show _ < _; omega
    clear hx
    generalize hr : q % 16 = r at *
    generalize hQ : q / 16 = Q at *
    clear hr hQ
    go_upto_region 2 with fail
    refine RH.wp_region_genI (T2.Inv w [Hm.W4 w.heap.size q] 6 7 8 9 Q r) [0, 0, 0, 0, 0, 0, 1, 1, 1, 1] (by kernel_rfl) (by kernel_rfl) (T2.start (Hm.drew hm)) ?_
    dsimp only [List.toList_toArray]
    refine RH.goD (v := ?_) (f' := ?_) rfl ?_ ?_ ?_
    rotate_left 2
    · intro U K d wx hI hmay hK
      refine RW.ld rfl rfl (hI.hd.ok (Hm.W4 w.heap.size q) (by simp)).c ?_
      exact hK _ (T2.keep hI (Below.refl _ _) (by decide) (by decide) (by decide) (by decide))
    · intro U
      simp only [Act.put, List.setIfInBounds_toArray, List.set_cons_succ, List.set_cons_zero]
      rfl
    refine RH.goD (v := ?_) (f' := ?_) rfl ?_ ?_ ?_
    rotate_left 2
    · intro U K d wx hI hmay hK
      go_simp
      refine (KI.out _).mono (fun e w2 he => ?_)
      refine ⟨_, he.1, ?_⟩
      exact hK _ (T2.keep hI he.2 (by decide) (by decide) (by decide) (by decide))
    · intro U
      simp only [Act.put, List.setIfInBounds_toArray, List.set_cons_succ, List.set_cons_zero]
      rfl
    refine RH.goD (v := ?_) (f' := ?_) rfl ?_ ?_ ?_
    rotate_left 2
    · intro U K d wx hI hmay hK
      go_simp
      refine (KD.out _).mono (fun e w2 he => ?_)
      refine ⟨_, he.1, ?_⟩
      exact hK _ (T2.keep hI he.2 (by decide) (by decide) (by decide) (by decide))
    · intro U
      simp only [Act.put, List.setIfInBounds_toArray, List.set_cons_succ, List.set_cons_zero]
      rfl
    refine RH.goD (v := ?_) (f' := ?_) rfl ?_ ?_ ?_
    rotate_left 2
    · intro U K d wx hI hmay hK
      go_simp
      exact hK _ (T2.keep hI (Below.refl _ _) (by decide) (by decide) (by decide) (by decide))
    · intro U
      simp only [Act.put, List.setIfInBounds_toArray, List.set_cons_succ, List.set_cons_zero]
      rfl
    refine RH.goD (v := ?_) (f' := ?_) rfl ?_ ?_ ?_
    rotate_left 2
    · intro U K d wx hI hmay hK
      go_simp
      exact hK _ (T2.keep hI (Below.refl _ _) (by decide) (by decide) (by decide) (by decide))
    · intro U
      simp only [Act.put, List.setIfInBounds_toArray, List.set_cons_succ, List.set_cons_zero]
      rfl
    refine RH.goD (v := ?_) (f' := ?_) rfl ?_ ?_ ?_
    rotate_left 2
    · intro U K d wx hI hmay hK
      go_simp
      exact hK _ (T2.keep hI (Below.refl _ _) (by decide) (by decide) (by decide) (by decide))
    · intro U
      simp only [Act.put, List.setIfInBounds_toArray, List.set_cons_succ, List.set_cons_zero]
      rfl
    refine RH.goN (f' := ?_) rfl ?_ ?_ ?_
    rotate_left 1
    · intro U K d wx hI hmay hK
      refine RW.al rfl hI.hd (fun w' hb hf => ?_)
      exact hK _ _ (T2.new1 hI hb hf hmay.1 (by decide) (by decide) (by decide))
    · intro U
      simp only [Act.put, List.setIfInBounds_toArray, List.set_cons_succ, List.set_cons_zero]
      rfl
    refine RH.goN (f' := ?_) rfl ?_ ?_ ?_
    rotate_left 1
    · intro U K d wx hI hmay hK
      refine RW.al rfl hI.hd (fun w' hb hf => ?_)
      exact hK _ _ (T2.new2 hI hb hf hmay.1 (by decide) (by decide) (by decide))
    · intro U
      simp only [Act.put, List.setIfInBounds_toArray, List.set_cons_succ, List.set_cons_zero]
      rfl
    refine RH.goN (f' := ?_) rfl ?_ ?_ ?_
    rotate_left 1
    · intro U K d wx hI hmay hK
      have h2 := hmay.2 _ rfl
      simp [Region.binds] at h2
      obtain ⟨g, hg, ok, hn⟩ := hI.g (show d 6 = true by simp [h2])
      refine RW.st rfl (show _ = _ from hg) rfl ok.c ok.f ?_
      exact hK _ _ (T2.st1 hI hg (by simp [h2]) (by decide) (by decide) (by decide))
    · intro U
      simp only [Act.put]
      rfl
    refine RH.goN (f' := ?_) rfl ?_ ?_ ?_
    rotate_left 1
    · intro U K d wx hI hmay hK
      have h2 := hmay.2 _ rfl
      simp [Region.binds] at h2
      obtain ⟨g, hg, ok, hn⟩ := hI.h (show d 7 = true by simp [h2])
      refine RW.st rfl (show _ = _ from hg) rfl ok.c ok.f ?_
      exact hK _ _ (T2.st2 hI hg (by simp [h2]) (by decide) (by decide) (by decide))
    · intro U
      simp only [Act.put]
      rfl
    refine RH.go_end ?_
    intro d U w9 hI hall
    simp +decide only [RH.tl, if_false]
    obtain ⟨g9, h9, e1, e2, d9, m9, n1, n2⟩ := T2.done hI ((hall 6 (by decide)).trans rfl) ((hall 7 (by decide)).trans rfl) ((hall 8 (by decide)).trans rfl) ((hall 9 (by decide)).trans rfl)
    clear hI hall hm KI KD
    rw [e1, e2]
    clear e1 e2
    simp only [RN.pv]
    have hne : ∀ b, b ∈ [Hm.W4 h9 r, Hm.W4 g9 Q] → w.heap.size ≠ b.g := fun b hb => by
      simp only [List.mem_cons, List.not_mem_nil, or_false] at hb
      rcases hb with rfl | rfl
      · exact fun e => n2 _ (List.mem_cons_self ..) e.symm
      · exact fun e => n1 _ (List.mem_cons_self ..) e.symm
    clear n1 n2 d9 U d
    have hr := HR.out
    have ds := dg_small r (by omega)
    have c5 : w9.cell? ⟨h9, 0, none⟩ = some (.int .u64 (r : Int)) := by rw [← ds.1]; exact (m9.ok (Hm.W4 h9 r) (by simp)).c 0 (show 0 < 4 by decide)
    have hw1 : IntKind.u64.wrap ((r : Int) + 1) = (r : Int) + 1 := by rw [IntKind.wrap_u64]; omega
    have t1 : ((r : Int) + 1).toNat = r + 1 := by omega
    have b1 : (r : Int) + 1 ≤ 16 := by omega
    have hxe := dig_ext' r hr
    have hE := HE.out
    clear ds
    go_upto_region 4 with fail
    clear c5 hw1 t1 b1 hxe hE hr
    have m4 := m9
    clear m9
    by_cases hQ : Q = 0
    · have hs := HF.out hQ
      refine RS.wp_region_flat (Hm.Hd w [Hm.W4 h9 r, Hm.W4 g9 Q, Hm.W4 w.heap.size q]) 3 (by kernel_rfl) (m4) ?_
      simp only [List.take_succ_cons, List.take_zero, List.drop_succ_cons, List.drop_zero]
      refine RS.go1 (v := ?_) (a' := ?_) rfl ?_ ?_ ?_
      rotate_left 2
      · intro K wx hS hK
        refine RW.ld rfl rfl (hS.ok (Hm.W4 (g9) (Q)) (by simp)).c ?_
        exact hK _ hS
      · simp only [Act.put, List.setIfInBounds_toArray, List.set_cons_succ, List.set_cons_zero]
        rfl
      refine RS.go1 (v := ?_) (a' := ?_) rfl ?_ ?_ ?_
      rotate_left 2
      · intro K wx hS hK
        go_simp
        exact hK _ hS
      · simp only [Act.put, List.setIfInBounds_toArray, List.set_cons_succ, List.set_cons_zero]
        rfl
      refine RS.go1 (v := ?_) (a' := ?_) rfl ?_ ?_ ?_
      rotate_left 2
      · intro K wx hS hK
        refine RW.eq (b := true) (y := 0) rfl rfl rfl (decide_eq_true (by rw [hQ])) ?_
        exact hK _ hS
      · simp only [Act.put, List.setIfInBounds_toArray, List.set_cons_succ, List.set_cons_zero]
        rfl
      refine RS.go_end ?_
      intro w5 m5
      have HB : Hid (Below w.heap.size w w5) := m5.bel
      have hG := HG.out
      rw [hs] at hG
      rw [hs]
      clear m4 m5 HG hs
      go_wp2_with fail
      go_ret
      exact ⟨rfl, HB.out⟩
    · have hs := HN.out hQ
      refine RS.wp_region_flat (Hm.Hd w [Hm.W4 h9 r, Hm.W4 g9 Q, Hm.W4 w.heap.size q]) 3 (by kernel_rfl) (m4) ?_
      simp only [List.take_succ_cons, List.take_zero, List.drop_succ_cons, List.drop_zero]
      refine RS.go1 (v := ?_) (a' := ?_) rfl ?_ ?_ ?_
      rotate_left 2
      · intro K wx hS hK
        refine RW.ld rfl rfl (hS.ok (Hm.W4 (g9) (Q)) (by simp)).c ?_
        exact hK _ hS
      · simp only [Act.put, List.setIfInBounds_toArray, List.set_cons_succ, List.set_cons_zero]
        rfl
      refine RS.go1 (v := ?_) (a' := ?_) rfl ?_ ?_ ?_
      rotate_left 2
      · intro K wx hS hK
        go_simp
        exact hK _ hS
      · simp only [Act.put, List.setIfInBounds_toArray, List.set_cons_succ, List.set_cons_zero]
        rfl
      refine RS.go1 (v := ?_) (a' := ?_) rfl ?_ ?_ ?_
      rotate_left 2
      · intro K wx hS hK
        refine RW.eq (b := false) (y := 0) rfl rfl rfl (decide_eq_false (by rw [Nat.mod_eq_of_lt HQ.out]; exact hQ)) ?_
        exact hK _ hS
      · simp only [Act.put, List.setIfInBounds_toArray, List.set_cons_succ, List.set_cons_zero]
        rfl
      refine RS.go_end ?_
      intro w5 m5
      have m6 : Hm.Hd w (Hm.W4 w.heap.size q :: [Hm.W4 h9 r, Hm.W4 g9 Q]) w5 := Hm.sub m5 (fun k hk => by simp only [List.mem_cons, List.not_mem_nil, or_false] at hk ⊢; rcases hk with rfl | rfl | rfl <;> simp)
      have c1 : ∀ o, o < 4 → w5.cell? ⟨g9, o, none⟩ = some (.int .u64 (dg Q o)) := (m5.ok (Hm.W4 g9 Q) (by simp)).c
      have c2 : ∀ o, o < 4 → w5.cell? ⟨w.heap.size, o, none⟩ = some (.int .u64 (dg q o)) := (m5.ok (Hm.W4 w.heap.size q) (by simp)).c
      have z2 : ∀ o, w5.frozen? ⟨w.heap.size, o, none⟩ = false := (m5.ok (Hm.W4 w.heap.size q) (by simp)).f
      have HV : Hid (Hm.Hd w [Hm.W4 w.heap.size Q] (T2.set4w w5 w.heap.size Q)) := Hm.sub (Hm.set4 (m := Q) m6 hne) (fun k hk => by simp only [List.mem_cons, List.not_mem_nil, or_false] at hk ⊢; exact .inl hk)
      have HM : Hid (vlen (.string ⟨(dsg r :: x).toArray⟩) = x.length + 1) := rfl
      clear m4 m5 m6 HG HF HN hne
      go_wp2_with fail
      go_roundw
      case rel => first | exact ⟨Q, dsg r :: x, rfl, hs, HV.out⟩ | ((repeat apply Exists.intro); exact ⟨⟨Q, dsg r :: x, rfl, hs, HV.out⟩, rfl⟩)
      case measure => have h1 := HS.out; have h2 := HM.out; simp [vlen, ByteArray.size]; omega
end Go.Proofs.YtlpdendoibdceaaDoor
/- lampbearerref.XParseNumber. -/
namespace Go.Proofs.YtlpdendoibdceaaDoor
open Go.RowKit
theorem dg_z (i : Nat) : dg 0 i = 0 := by simp [dg]
theorem CF_of {B g n : Nat} {wx : World} (h : Hm.Ok B (Hm.W4 g n) wx) : CF g 4 (dg n) wx := h.c
set_option maxHeartbeats 400000 in
set_option maxRecDepth 100000 in
theorem xp_lo (L : ByteArray) (h : Hid ((L.size : Int) < 3)) (w : World) : Calls Tryd.prog 9 #[.string L] w fun e w' => e = .returned (.tuple #[Wd 0, .int .i64 1]) ∧ Below w.heap.size w w' := by
  go_enter Tryd.func9, Tryd.ntmps9
  have h1 := h.out
  go_wp2
  refine bodyPost_ret (v := .tuple #[Wd 0, .int .i64 1]) (by simp [Wd, dg, results, Tryd.results9, go_sem]) rfl ⟨rfl, ?_⟩
  repeat (first | exact Below.refl _ _ | refine Below.drew ?_ | refine Below.setCell ?_ (by simp <;> omega) _ | refine Below.alloc ?_ (by simp <;> omega) _)
set_option maxHeartbeats 400000 in
set_option maxRecDepth 100000 in
theorem xp_hi (L : ByteArray) (h : Hid (66 < (L.size : Int))) (w : World) : Calls Tryd.prog 9 #[.string L] w fun e w' => e = .returned (.tuple #[Wd 0, .int .i64 1]) ∧ Below w.heap.size w w' := by
  go_enter Tryd.func9, Tryd.ntmps9
  have h1 := h.out
  have h2 : decide ((L.size : Int) < 3) = false := decide_eq_false (by omega)
  go_wp2
  refine bodyPost_ret (v := .tuple #[Wd 0, .int .i64 1]) (by simp [Wd, dg, results, Tryd.results9, go_sem]) rfl ⟨rfl, ?_⟩
  repeat (first | exact Below.refl _ _ | refine Below.drew ?_ | refine Below.setCell ?_ (by simp <;> omega) _ | refine Below.alloc ?_ (by simp <;> omega) _)
set_option maxHeartbeats 1000000 in
set_option maxRecDepth 100000 in
theorem xp_bad (L Z Y D T : ByteArray) (z : Nat) (h3 : Hid ((3 : Int) ≤ (L.size : Int))) (h66 : Hid ((L.size : Int) ≤ 66)) (HW : Hid (IntKind.i64.wrap (66 - (L.size : Int)) = (z : Int))) (HZ : Hid (({ data := #[48, 48, 48, 48, 48, 48, 48, 48, 48, 48, 48, 48, 48, 48, 48, 48, 48, 48, 48, 48, 48, 48, 48, 48, 48, 48, 48, 48, 48, 48, 48, 48, 48, 48, 48, 48, 48, 48, 48, 48, 48, 48, 48, 48, 48, 48, 48, 48, 48, 48, 48, 48, 48, 48, 48, 48, 48, 48, 48, 48, 48, 48, 48, 48] } : ByteArray).extract 0 z = Z)) (HZ1 : Hid ((z : Int) ≤ 64))
    (HA : Hid (∀ w : World, (Op.stringOp .add ⟨#[48, 120]⟩ Z).run Tryd.prog w = .ok (.string Y) w)) (HD : Hid (L.extract 2 L.size = D)) (HD2 : Hid ((2 : Int) ≤ (L.size : Int))) (HB : Hid (∀ w : World, (Op.stringOp .add Y D).run Tryd.prog w = .ok (.string T) w)) (w : World)
    (KX : Hid (∀ w : World, Calls Tryd.prog 20 #[.string T] w fun e w' => ∃ v, e = .returned (.tuple #[v, .int .i64 1]) ∧ Below w.heap.size w w')) :
    Calls Tryd.prog 9 #[.string L] w fun e w' => e = .returned (.tuple #[Wd 0, .int .i64 1]) ∧ Below w.heap.size w w' := by
  go_enter Tryd.func9, Tryd.ntmps9
  have m0 := Hm.new0 (g := w.heap.size) (T := 24) (Hm.start w) rfl
  have q1 : decide ((L.size : Int) < 3) = false := decide_eq_false (by have := h3.out; omega)
  have q2 : decide (66 < (L.size : Int)) = false := decide_eq_false (by have := h66.out; omega)
  have q3 : decide ((L.size : Int) > 66) = false := q2
  go_upto_region 3 with fail
  clear q1 q2 q3
  generalize w.alloc (.cells #[.int .u64 0, .int .u64 0, .int .u64 0, .int .u64 0] 24) = W0 at m0 ⊢
  refine RS.wp_region_one (Hm.Hd w [Hm.W4 w.heap.size 0]) (by kernel_rfl) (by kernel_rfl) (Hm.drew m0) ?_
  dsimp only [List.toList_toArray]
  refine RS.go1 (v := ?_) (a' := ?_) rfl ?_ ?_ ?_
  rotate_left 2
  · intro K wx hS hK
    go_simp
    exact hK _ hS
  · simp only [Act.put, List.setIfInBounds_toArray, List.set_cons_succ, List.set_cons_zero]
    rfl
  refine RS.go1 (v := ?_) (a' := ?_) rfl ?_ ?_ ?_
  rotate_left 2
  · intro K wx hS hK
    go_simp
    exact hK _ hS
  · simp only [Act.put, List.setIfInBounds_toArray, List.set_cons_succ, List.set_cons_zero]
    rfl
  refine RS.go1 (v := ?_) (a' := ?_) rfl ?_ ?_ ?_
  rotate_left 2
  · intro K wx hS hK
    have e1 := HW.out
    go_simp
    exact hK _ hS
  · simp only [Act.put, List.setIfInBounds_toArray, List.set_cons_succ, List.set_cons_zero]
    rfl
  refine RS.go1 (v := ?_) (a' := ?_) rfl ?_ ?_ ?_
  rotate_left 2
  · intro K wx hS hK
    have e1 := HZ.out
    have e2 := HZ1.out
    have e3 : ((z : Int)).toNat = z := Int.toNat_natCast z
    go_simp
    exact hK _ hS
  · simp only [Act.put, List.setIfInBounds_toArray, List.set_cons_succ, List.set_cons_zero]
    rfl
  refine RS.go1 (v := ?_) (a' := ?_) rfl ?_ ?_ ?_
  rotate_left 2
  · intro K wx hS hK
    have e1 := HA.out
    go_simp
    exact hK _ hS
  · simp only [Act.put, List.setIfInBounds_toArray, List.set_cons_succ, List.set_cons_zero]
    rfl
  refine RS.go1 (v := ?_) (a' := ?_) rfl ?_ ?_ ?_
  rotate_left 2
  · intro K wx hS hK
    go_simp
    exact hK _ hS
  · simp only [Act.put, List.setIfInBounds_toArray, List.set_cons_succ, List.set_cons_zero]
    rfl
  refine RS.go1 (v := ?_) (a' := ?_) rfl ?_ ?_ ?_
  rotate_left 2
  · intro K wx hS hK
    have e1 := HD.out
    have e2 := HD2.out
    go_simp
    exact hK _ hS
  · simp only [Act.put, List.setIfInBounds_toArray, List.set_cons_succ, List.set_cons_zero]
    rfl
  refine RS.go1 (v := ?_) (a' := ?_) rfl ?_ ?_ ?_
  rotate_left 2
  · intro K wx hS hK
    have e1 := HB.out
    go_simp
    exact hK _ hS
  · simp only [Act.put, List.setIfInBounds_toArray, List.set_cons_succ, List.set_cons_zero]
    rfl
  refine RS.go1 (v := ?_) (a' := ?_) rfl ?_ ?_ ?_
  rotate_left 2
  · intro K wx hS hK
    go_simp
    exact hK _ hS
  · simp only [Act.put, List.setIfInBounds_toArray, List.set_cons_succ, List.set_cons_zero]
    rfl
  refine RS.go_end ?_
  intro w1 m1
  clear m0 h3 h66 HW HZ HZ1 HA HD HD2 HB
  go_wp2_with fail
  refine (KX.out _).mono ?_
  rintro e w2 ⟨v, rfl, hb⟩
  have m2 := Hm.below m1 hb
  clear hb m1
  have c0 : ∀ o, o < 4 → w2.cell? ⟨w.heap.size, o, none⟩ = some (.int .u64 (dg 0 o)) := (m2.ok (Hm.W4 w.heap.size 0) (by simp)).c
  have f0 : ∀ o, w2.frozen? ⟨w.heap.size, o, none⟩ = false := (m2.ok (Hm.W4 w.heap.size 0) (by simp)).f
  have HV : Hid (∀ c : Int, ∀ tm : Array Value, tm.getD 2 undef = .pointer (some ⟨w.heap.size, 0, none⟩) → tm.getD 3 undef = .int .i64 c → (results Tryd.f9 tm).run Tryd.prog ((((w2.setCell ⟨w.heap.size, 0, none⟩ (.int .u64 0)).setCell ⟨w.heap.size, 1, none⟩ (.int .u64 0)).setCell ⟨w.heap.size, 2, none⟩ (.int .u64 0)).setCell ⟨w.heap.size, 3, none⟩ (.int .u64 0)) = .ok (.tuple #[Wd 0, .int .i64 c]) ((((w2.setCell ⟨w.heap.size, 0, none⟩ (.int .u64 0)).setCell ⟨w.heap.size, 1, none⟩ (.int .u64 0)).setCell ⟨w.heap.size, 2, none⟩ (.int .u64 0)).setCell ⟨w.heap.size, 3, none⟩ (.int .u64 0))) := fun c tm h1 h2 => by
    have k := CF_of ((Hm.set4 (m := 0) (L := []) m2 (fun _ h => by cases h)).ok _ (List.mem_cons_self ..))
    simp only [dg_z] at k
    exact res42 _ tm _ w.heap.size 0 2 3 c rfl h1 h2 k
  have HB : Hid (Below w.heap.size w ((((w2.setCell ⟨w.heap.size, 0, none⟩ (.int .u64 0)).setCell ⟨w.heap.size, 1, none⟩ (.int .u64 0)).setCell ⟨w.heap.size, 2, none⟩ (.int .u64 0)).setCell ⟨w.heap.size, 3, none⟩ (.int .u64 0))) := (((m2.bel.setCell (Nat.le_refl _) _).setCell (Nat.le_refl _) _).setCell (Nat.le_refl _) _).setCell (Nat.le_refl _) _
  clear m2 KX
  go_wp2_with fail
  exact bodyPost_ret (v := .tuple #[Wd 0, .int .i64 1]) (HV.out 1 _ rfl rfl) rfl ⟨rfl, HB.out⟩
set_option maxHeartbeats 1000000 in
set_option maxRecDepth 100000 in
theorem xp_ne (L Z Y D T : ByteArray) (z : Nat) (h3 : Hid ((3 : Int) ≤ (L.size : Int))) (h66 : Hid ((L.size : Int) ≤ 66)) (HW : Hid (IntKind.i64.wrap (66 - (L.size : Int)) = (z : Int))) (HZ : Hid (({ data := #[48, 48, 48, 48, 48, 48, 48, 48, 48, 48, 48, 48, 48, 48, 48, 48, 48, 48, 48, 48, 48, 48, 48, 48, 48, 48, 48, 48, 48, 48, 48, 48, 48, 48, 48, 48, 48, 48, 48, 48, 48, 48, 48, 48, 48, 48, 48, 48, 48, 48, 48, 48, 48, 48, 48, 48, 48, 48, 48, 48, 48, 48, 48, 48] } : ByteArray).extract 0 z = Z)) (HZ1 : Hid ((z : Int) ≤ 64))
    (HA : Hid (∀ w : World, (Op.stringOp .add ⟨#[48, 120]⟩ Z).run Tryd.prog w = .ok (.string Y) w)) (HD : Hid (L.extract 2 L.size = D)) (HD2 : Hid ((2 : Int) ≤ (L.size : Int))) (HB : Hid (∀ w : World, (Op.stringOp .add Y D).run Tryd.prog w = .ok (.string T) w)) (N : ByteArray) (n : Nat) (w : World)
    (KX : Hid (∀ w : World, Calls Tryd.prog 20 #[.string T] w fun e w' => ∃ v, e = .returned (.tuple #[v, .int .i64 0]) ∧ (∀ W, Below w'.heap.size w' W → Calls Tryd.prog 21 #[v] W fun e w2 => e = .returned (Wd n) ∧ Below W.heap.size W w2) ∧ Below w.heap.size w w'))
    (KN : Hid (∀ w : World, Calls Tryd.prog 11 #[Wd n] w fun e w' => e = .returned (.string N) ∧ Below w.heap.size w w')) (HN : Hid ((N.toList == L.toList) = false)) :
    Calls Tryd.prog 9 #[.string L] w fun e w' => e = .returned (.tuple #[Wd 0, .int .i64 1]) ∧ Below w.heap.size w w' := by
  go_enter Tryd.func9, Tryd.ntmps9
  have m0 := Hm.new0 (g := w.heap.size) (T := 24) (Hm.start w) rfl
  have q1 : decide ((L.size : Int) < 3) = false := decide_eq_false (by have := h3.out; omega)
  have q2 : decide (66 < (L.size : Int)) = false := decide_eq_false (by have := h66.out; omega)
  have q3 : decide ((L.size : Int) > 66) = false := q2
  go_upto_region 3 with fail
  clear q1 q2 q3
  generalize w.alloc (.cells #[.int .u64 0, .int .u64 0, .int .u64 0, .int .u64 0] 24) = W0 at m0 ⊢
  refine RS.wp_region_one (Hm.Hd w [Hm.W4 w.heap.size 0]) (by kernel_rfl) (by kernel_rfl) (Hm.drew m0) ?_
  dsimp only [List.toList_toArray]
  refine RS.go1 (v := ?_) (a' := ?_) rfl ?_ ?_ ?_
  rotate_left 2
  · intro K wx hS hK
    go_simp
    exact hK _ hS
  · simp only [Act.put, List.setIfInBounds_toArray, List.set_cons_succ, List.set_cons_zero]
    rfl
  refine RS.go1 (v := ?_) (a' := ?_) rfl ?_ ?_ ?_
  rotate_left 2
  · intro K wx hS hK
    go_simp
    exact hK _ hS
  · simp only [Act.put, List.setIfInBounds_toArray, List.set_cons_succ, List.set_cons_zero]
    rfl
  refine RS.go1 (v := ?_) (a' := ?_) rfl ?_ ?_ ?_
  rotate_left 2
  · intro K wx hS hK
    have e1 := HW.out
    go_simp
    exact hK _ hS
  · simp only [Act.put, List.setIfInBounds_toArray, List.set_cons_succ, List.set_cons_zero]
    rfl
  refine RS.go1 (v := ?_) (a' := ?_) rfl ?_ ?_ ?_
  rotate_left 2
  · intro K wx hS hK
    have e1 := HZ.out
    have e2 := HZ1.out
    have e3 : ((z : Int)).toNat = z := Int.toNat_natCast z
    go_simp
    exact hK _ hS
  · simp only [Act.put, List.setIfInBounds_toArray, List.set_cons_succ, List.set_cons_zero]
    rfl
  refine RS.go1 (v := ?_) (a' := ?_) rfl ?_ ?_ ?_
  rotate_left 2
  · intro K wx hS hK
    have e1 := HA.out
    go_simp
    exact hK _ hS
  · simp only [Act.put, List.setIfInBounds_toArray, List.set_cons_succ, List.set_cons_zero]
    rfl
  refine RS.go1 (v := ?_) (a' := ?_) rfl ?_ ?_ ?_
  rotate_left 2
  · intro K wx hS hK
    go_simp
    exact hK _ hS
  · simp only [Act.put, List.setIfInBounds_toArray, List.set_cons_succ, List.set_cons_zero]
    rfl
  refine RS.go1 (v := ?_) (a' := ?_) rfl ?_ ?_ ?_
  rotate_left 2
  · intro K wx hS hK
    have e1 := HD.out
    have e2 := HD2.out
    go_simp
    exact hK _ hS
  · simp only [Act.put, List.setIfInBounds_toArray, List.set_cons_succ, List.set_cons_zero]
    rfl
  refine RS.go1 (v := ?_) (a' := ?_) rfl ?_ ?_ ?_
  rotate_left 2
  · intro K wx hS hK
    have e1 := HB.out
    go_simp
    exact hK _ hS
  · simp only [Act.put, List.setIfInBounds_toArray, List.set_cons_succ, List.set_cons_zero]
    rfl
  refine RS.go1 (v := ?_) (a' := ?_) rfl ?_ ?_ ?_
  rotate_left 2
  · intro K wx hS hK
    go_simp
    exact hK _ hS
  · simp only [Act.put, List.setIfInBounds_toArray, List.set_cons_succ, List.set_cons_zero]
    rfl
  refine RS.go_end ?_
  intro w1 m1
  clear m0 h3 h66 HW HZ HZ1 HA HD HD2 HB
  go_wp2_with fail
  refine (KX.out _).mono ?_
  rintro e w2 ⟨v, rfl, kr, hb⟩
  have m2 := Hm.below m1 hb
  have KR : Hid (∀ W, Below w2.heap.size w2 W → Calls Tryd.prog 21 #[v] W fun e w2 => e = .returned (Wd n) ∧ Below W.heap.size W w2) := kr
  clear hb m1 kr
  go_wp2_with fail
  refine (KR.out _ (Below.refl _ _)).mono ?_
  rintro e w3 ⟨rfl, hb⟩
  have m3 := Hm.below m2 hb
  clear hb m2
  go_wp2_with fail
  refine (KN.out _).mono ?_
  rintro e w4 ⟨rfl, hb⟩
  have m4 := Hm.below m3 hb
  clear hb m3
  have c0 : ∀ o, o < 4 → w4.cell? ⟨w.heap.size, o, none⟩ = some (.int .u64 (dg 0 o)) := (m4.ok (Hm.W4 w.heap.size 0) (by simp)).c
  have f0 : ∀ o, w4.frozen? ⟨w.heap.size, o, none⟩ = false := (m4.ok (Hm.W4 w.heap.size 0) (by simp)).f
  have HV : Hid (∀ c : Int, ∀ tm : Array Value, tm.getD 2 undef = .pointer (some ⟨w.heap.size, 0, none⟩) → tm.getD 3 undef = .int .i64 c → (results Tryd.f9 tm).run Tryd.prog ((((w4.setCell ⟨w.heap.size, 0, none⟩ (.int .u64 0)).setCell ⟨w.heap.size, 1, none⟩ (.int .u64 0)).setCell ⟨w.heap.size, 2, none⟩ (.int .u64 0)).setCell ⟨w.heap.size, 3, none⟩ (.int .u64 0)) = .ok (.tuple #[Wd 0, .int .i64 c]) ((((w4.setCell ⟨w.heap.size, 0, none⟩ (.int .u64 0)).setCell ⟨w.heap.size, 1, none⟩ (.int .u64 0)).setCell ⟨w.heap.size, 2, none⟩ (.int .u64 0)).setCell ⟨w.heap.size, 3, none⟩ (.int .u64 0))) := fun c tm h1 h2 => by
    have k := CF_of ((Hm.set4 (m := 0) (L := []) m4 (fun _ h => by cases h)).ok _ (List.mem_cons_self ..))
    simp only [dg_z] at k
    exact res42 _ tm _ w.heap.size 0 2 3 c rfl h1 h2 k
  have HB : Hid (Below w.heap.size w ((((w4.setCell ⟨w.heap.size, 0, none⟩ (.int .u64 0)).setCell ⟨w.heap.size, 1, none⟩ (.int .u64 0)).setCell ⟨w.heap.size, 2, none⟩ (.int .u64 0)).setCell ⟨w.heap.size, 3, none⟩ (.int .u64 0))) := (((m4.bel.setCell (Nat.le_refl _) _).setCell (Nat.le_refl _) _).setCell (Nat.le_refl _) _).setCell (Nat.le_refl _) _
  clear m4 KX KN KR
  have hn := HN.out
  go_wp2_with fail
  exact bodyPost_ret (v := .tuple #[Wd 0, .int .i64 1]) (HV.out 1 _ rfl rfl) rfl ⟨rfl, HB.out⟩
set_option maxHeartbeats 1000000 in
set_option maxRecDepth 100000 in
theorem xp_eq (L Z Y D T : ByteArray) (z : Nat) (h3 : Hid ((3 : Int) ≤ (L.size : Int))) (h66 : Hid ((L.size : Int) ≤ 66)) (HW : Hid (IntKind.i64.wrap (66 - (L.size : Int)) = (z : Int))) (HZ : Hid (({ data := #[48, 48, 48, 48, 48, 48, 48, 48, 48, 48, 48, 48, 48, 48, 48, 48, 48, 48, 48, 48, 48, 48, 48, 48, 48, 48, 48, 48, 48, 48, 48, 48, 48, 48, 48, 48, 48, 48, 48, 48, 48, 48, 48, 48, 48, 48, 48, 48, 48, 48, 48, 48, 48, 48, 48, 48, 48, 48, 48, 48, 48, 48, 48, 48] } : ByteArray).extract 0 z = Z)) (HZ1 : Hid ((z : Int) ≤ 64))
    (HA : Hid (∀ w : World, (Op.stringOp .add ⟨#[48, 120]⟩ Z).run Tryd.prog w = .ok (.string Y) w)) (HD : Hid (L.extract 2 L.size = D)) (HD2 : Hid ((2 : Int) ≤ (L.size : Int))) (HB : Hid (∀ w : World, (Op.stringOp .add Y D).run Tryd.prog w = .ok (.string T) w)) (n : Nat) (w : World)
    (KX : Hid (∀ w : World, Calls Tryd.prog 20 #[.string T] w fun e w' => ∃ v, e = .returned (.tuple #[v, .int .i64 0]) ∧ (∀ W, Below w'.heap.size w' W → Calls Tryd.prog 21 #[v] W fun e w2 => e = .returned (Wd n) ∧ Below W.heap.size W w2) ∧ Below w.heap.size w w'))
    (KN : Hid (∀ w : World, Calls Tryd.prog 11 #[Wd n] w fun e w' => e = .returned (.string L) ∧ Below w.heap.size w w')) :
    Calls Tryd.prog 9 #[.string L] w fun e w' => e = .returned (.tuple #[Wd n, .int .i64 0]) ∧ Below w.heap.size w w' := by
  go_enter Tryd.func9, Tryd.ntmps9
  have m0 := Hm.new0 (g := w.heap.size) (T := 24) (Hm.start w) rfl
  have q1 : decide ((L.size : Int) < 3) = false := decide_eq_false (by have := h3.out; omega)
  have q2 : decide (66 < (L.size : Int)) = false := decide_eq_false (by have := h66.out; omega)
  have q3 : decide ((L.size : Int) > 66) = false := q2
  go_upto_region 3 with fail
  clear q1 q2 q3
  generalize w.alloc (.cells #[.int .u64 0, .int .u64 0, .int .u64 0, .int .u64 0] 24) = W0 at m0 ⊢
  refine RS.wp_region_one (Hm.Hd w [Hm.W4 w.heap.size 0]) (by kernel_rfl) (by kernel_rfl) (Hm.drew m0) ?_
  dsimp only [List.toList_toArray]
  refine RS.go1 (v := ?_) (a' := ?_) rfl ?_ ?_ ?_
  rotate_left 2
  · intro K wx hS hK
    go_simp
    exact hK _ hS
  · simp only [Act.put, List.setIfInBounds_toArray, List.set_cons_succ, List.set_cons_zero]
    rfl
  refine RS.go1 (v := ?_) (a' := ?_) rfl ?_ ?_ ?_
  rotate_left 2
  · intro K wx hS hK
    go_simp
    exact hK _ hS
  · simp only [Act.put, List.setIfInBounds_toArray, List.set_cons_succ, List.set_cons_zero]
    rfl
  refine RS.go1 (v := ?_) (a' := ?_) rfl ?_ ?_ ?_
  rotate_left 2
  · intro K wx hS hK
    have e1 := HW.out
    go_simp
    exact hK _ hS
  · simp only [Act.put, List.setIfInBounds_toArray, List.set_cons_succ, List.set_cons_zero]
    rfl
  refine RS.go1 (v := ?_) (a' := ?_) rfl ?_ ?_ ?_
  rotate_left 2
  · intro K wx hS hK
    have e1 := HZ.out
    have e2 := HZ1.out
    have e3 : ((z : Int)).toNat = z := Int.toNat_natCast z
    go_simp
    exact hK _ hS
  · simp only [Act.put, List.setIfInBounds_toArray, List.set_cons_succ, List.set_cons_zero]
    rfl
  refine RS.go1 (v := ?_) (a' := ?_) rfl ?_ ?_ ?_
  rotate_left 2
  · intro K wx hS hK
    have e1 := HA.out
    go_simp
    exact hK _ hS
  · simp only [Act.put, List.setIfInBounds_toArray, List.set_cons_succ, List.set_cons_zero]
    rfl
  refine RS.go1 (v := ?_) (a' := ?_) rfl ?_ ?_ ?_
  rotate_left 2
  · intro K wx hS hK
    go_simp
    exact hK _ hS
  · simp only [Act.put, List.setIfInBounds_toArray, List.set_cons_succ, List.set_cons_zero]
    rfl
  refine RS.go1 (v := ?_) (a' := ?_) rfl ?_ ?_ ?_
  rotate_left 2
  · intro K wx hS hK
    have e1 := HD.out
    have e2 := HD2.out
    go_simp
    exact hK _ hS
  · simp only [Act.put, List.setIfInBounds_toArray, List.set_cons_succ, List.set_cons_zero]
    rfl
  refine RS.go1 (v := ?_) (a' := ?_) rfl ?_ ?_ ?_
  rotate_left 2
  · intro K wx hS hK
    have e1 := HB.out
    go_simp
    exact hK _ hS
  · simp only [Act.put, List.setIfInBounds_toArray, List.set_cons_succ, List.set_cons_zero]
    rfl
  refine RS.go1 (v := ?_) (a' := ?_) rfl ?_ ?_ ?_
  rotate_left 2
  · intro K wx hS hK
    go_simp
    exact hK _ hS
  · simp only [Act.put, List.setIfInBounds_toArray, List.set_cons_succ, List.set_cons_zero]
    rfl
  refine RS.go_end ?_
  intro w1 m1
  clear m0 h3 h66 HW HZ HZ1 HA HD HD2 HB
  go_wp2_with fail
  refine (KX.out _).mono ?_
  rintro e w2 ⟨v, rfl, kr, hb⟩
  have m2 := Hm.below m1 hb
  have KR : Hid (∀ W, Below w2.heap.size w2 W → Calls Tryd.prog 21 #[v] W fun e w2 => e = .returned (Wd n) ∧ Below W.heap.size W w2) := kr
  clear hb m1 kr
  go_wp2_with fail
  refine (KR.out _ (Below.refl _ _)).mono ?_
  rintro e w3 ⟨rfl, hb3⟩
  have m3 := Hm.below m2 hb3
  clear m2
  go_wp2_with fail
  refine (KN.out _).mono ?_
  rintro e w4 ⟨rfl, hb4⟩
  have m4 := Hm.below m3 hb4
  have hb := hb3.trans (hb4.mono hb3.size)
  clear hb3 hb4 m3
  go_wp2_with fail
  refine (KR.out _ hb).mono ?_
  rintro e w5 ⟨rfl, hb5⟩
  have m5 := Hm.below m4 hb5
  clear hb hb5 m4
  have c0 : ∀ o, o < 4 → w5.cell? ⟨w.heap.size, o, none⟩ = some (.int .u64 (dg 0 o)) := (m5.ok (Hm.W4 w.heap.size 0) (by simp)).c
  have f0 : ∀ o, w5.frozen? ⟨w.heap.size, o, none⟩ = false := (m5.ok (Hm.W4 w.heap.size 0) (by simp)).f
  have HV : Hid (CF w.heap.size 4 (dg n) (T2.set4w w5 w.heap.size n)) := CF_of ((Hm.set4 (m := n) (L := []) m5 (fun _ h => by cases h)).ok _ (List.mem_cons_self ..))
  have HB : Hid (Below w.heap.size w w5) := m5.bel
  clear m5 KX KN KR
  unfold Wd
  go_wp2_with fail
  exact bodyPost_ret (v := .tuple #[Wd n, .int .i64 0]) (res42 _ _ _ w.heap.size _ 2 3 0 rfl rfl rfl HV.out) rfl ⟨rfl, Bel_set4 HB.out (Nat.le_refl _)⟩
end Go.Proofs.YtlpdendoibdceaaDoor
