/- The law TreePuts, over what slices.SortFunc does. -/
import Derived.Test.YthlgneadcagleaaPackF
import Derived.Shelf.SlGeneric
import Derived.Shelf.SlSortCmp.WholeK
import Derived.Ground.SlsfProg
import Derived.Test.YthlgneadcagleaaProg
import Derived.Test.YthlgneadcagleaaPackA
import Derived.Sort.OwnSorted
namespace Go.Proofs.Ythlgneadcagleaa
namespace Tr
open Nb Go.RowKit
theorem bns_len' : ∀ l : List Nd, (bns l).length = l.length
  | [] => rfl
  | t :: r => by rw [bns, List.length_cons, List.length_cons, bns_len' r]
theorem bns_at : ∀ (l : List Nd) (j : Nat), j < l.length → (bns l).getD j Nd.no = bn (l.getD j Nd.no)
  | [], j, h => absurd h (by simp)
  | t :: r, 0, _ => by rw [bns]; rfl
  | t :: r, j + 1, h => by
    rw [bns, List.getD_cons_succ, List.getD_cons_succ]
    exact bns_at r j (by simpa using h)
theorem sm_nil (k : Int) (p v : By) : Sm (.mk k p v []) := .mk k p v [] (by simp) (fun j hj => absurd hj (by simp))
theorem sm_bn {t : Nd} (h : Rs t) : Sm (bn t) := by
  induction h with
  | none p v ks => simp only [bn]; exact sm_nil _ _ _
  | leaf p v ks hp hv => simp only [bn]; exact sm_nil _ _ _
  | road p v t hp h0 hk h ih =>
    have e : bn (.mk 2 p v [t]) = .mk 2 p [] [bn t] := by simp [bn, bns]
    rw [e]
    refine .mk 2 p [] [bn t] (by simp) (fun j hj => ?_)
    have : j = 0 := by simpa using hj
    subst this
    exact ih
  | fork p v ks hl h h2 ih =>
    have e : bn (.mk 3 p v ks) = .mk 3 [] v (bns ks) := by simp [bn]
    rw [e]
    refine .mk 3 [] v (bns ks) (by rw [bns_len', hl]; omega) (fun j hj => ?_)
    rw [bns_len'] at hj
    rw [bns_at ks j hj]
    exact ih j (by omega)
theorem pr_sm {t : Nd} {b y : By} {r : Nd} (h : PR t b y r) : Sm r := by
  unfold PR at h
  split at h
  · obtain ⟨t', rfl, hr, _⟩ := h
    exact sm_bn hr
  · rw [h]; exact sm_nil _ _ _
set_option maxHeartbeats 2000000 in
set_option maxRecDepth 100000 in
theorem law_puts (hso : SortOk) (t : Nd) (hs : Sm t) (x : V4) (w : World) (hx : Nv (· < w.heap.size) w t x) (hw : wn t ≤ 1048576) (b : By) (kv : Value) (hb : Bs (· < w.heap.size) b kv w) (y : By) (yv : Value) (hy : Bs (· < w.heap.size) y yv w) :
    Calls Try.prog 5 #[v4 x, kv, yv] w fun e w' => e = .returned (.bool true) ∧ Below w.heap.size w w' := by
  obtain ⟨k, a1, n1, c1, a2, m2, c2, a3, n3, c3, rfl⟩ := Nv_form hx
  obtain ⟨ak, ck, rfl, _⟩ := Bs_form hb
  obtain ⟨av, cv, rfl, _⟩ := Bs_form hy
  have N0 := NB_new hx (Nat.le_refl _)
  have KX : Hid (∀ wx : World, NB w.heap.size (.int .i64 k, .slice a1 n1 c1, .slice a2 m2 c2, .slice a3 n3 c3) t w.heap.size w wx → Calls Try.prog 13 #[.agg #[.int .i64 k, .slice a1 n1 c1, .slice a2 m2 c2, .slice a3 n3 c3], .slice ak b.length ck, .slice av y.length cv] wx fun e w' => ∃ (r : Nd) (u : V4), e = .returned (.tuple #[v4 u, .int .i64 (pe t b y)]) ∧ (Nv (fun _ => True) w' r u ∧ PR t b y r) ∧ Below wx.heap.size wx w') := fun wx hn => by
    refine (tput_any t _ _ _ (.int .i64 k, .slice a1 n1 c1, .slice a2 m2 c2, .slice a3 n3 c3) wx hn.n (by omega) b _ (Bs_below hb hn.b) y _ (Bs_below hy hn.b)).mono fun e w' he => ?_
    obtain ⟨r, u, h1, h2, h3, h4⟩ := he
    exact ⟨r, u, h1, ⟨Nv_mono h2 (fun _ _ _ => trivial), h3⟩, h4⟩
  have KY : Hid (∀ wx : World, NB w.heap.size (.int .i64 k, .slice a1 n1 c1, .slice a2 m2 c2, .slice a3 n3 c3) t w.heap.size w wx → Calls Try.prog 14 #[.agg #[.int .i64 k, .slice a1 n1 c1, .slice a2 m2 c2, .slice a3 n3 c3], .slice ak b.length ck, .slice av y.length cv] wx fun e w' => ∃ (r : Nd) (u : V4), e = .returned (.tuple #[v4 u, .int .i64 (pe t b y)]) ∧ (Nv (fun _ => True) w' r u ∧ GR2 t b y r) ∧ Below wx.heap.size wx w') := fun wx hn => by
    refine (gput_any hso t hs _ _ _ (.int .i64 k, .slice a1 n1 c1, .slice a2 m2 c2, .slice a3 n3 c3) wx hn.n hw b _ (Bs_below hb hn.b) y _ (Bs_below hy hn.b) (fun l hl => Nat.le_trans (rt_less hl) hw)).mono fun e w' he => ?_
    obtain ⟨r, u, h1, h2, h3, h4⟩ := he
    exact ⟨r, u, h1, ⟨Nv_mono h2 (fun _ _ _ => trivial), h3⟩, h4⟩
  have R0 : Hid (NB w.heap.size (.int .i64 k, .slice a1 n1 c1, .slice a2 m2 c2, .slice a3 n3 c3) t w.heap.size w (w.alloc (.cells #[.int .i64 k, .slice a1 n1 c1, .slice a2 m2 c2, .slice a3 n3 c3] 25))) := N0
  clear N0 hx hw hs hb hy
  show Calls Try.prog _ #[.agg #[.int .i64 k, .slice a1 n1 c1, .slice a2 m2 c2, .slice a3 n3 c3], .slice ak b.length ck, .slice av y.length cv] w _
  have q0 := R0.out.bx.2.1
  have q1 := R0.out.bx.2.2.1
  have q2 := R0.out.bx.2.2.2.1
  have q3 := R0.out.bx.2.2.2.2
  dsimp only at q0 q1 q2 q3
  generalize hP : pe t b y = P at *
  generalize hW : (w.alloc (.cells #[.int .i64 k, .slice a1 n1 c1, .slice a2 m2 c2, .slice a3 n3 c3] 25)) = W1 at *
  go_enter Try.func5, Try.ntmps5
  go_wp2_with fail
  refine (KX.out _ R0.out).mono ?_
  rintro e w1 ⟨r1, u1, rfl, hr1, hb1⟩
  have R1 : Hid (NB w.heap.size (.int .i64 k, .slice a1 n1 c1, .slice a2 m2 c2, .slice a3 n3 c3) t w.heap.size w w1) := NB_below R0.out hb1
  have HR1 : Hid (Nv (fun _ => True) w1 r1 u1 ∧ PR t b y r1) := hr1
  obtain ⟨xk, xa1, xn1, xc1, xa2, xn2, xc2, xa3, xn3, xc3, rfl⟩ := Nv_form hr1.1
  have bA : Below w1.heap.size w1 (w1.alloc (.cells #[.int .i64 xk, .slice xa1 xn1 xc1, .slice xa2 xn2 xc2, .slice xa3 xn3 xc3] 25)) := (Below.refl _ _).alloc (Nat.le_refl _) _
  have BX1 := Bx_new w1 (.int .i64 xk, .slice xa1 xn1 xc1, .slice xa2 xn2 xc2, .slice xa3 xn3 xc3)
  dsimp only at BX1
  have R2 : Hid (NB w.heap.size (.int .i64 k, .slice a1 n1 c1, .slice a2 m2 c2, .slice a3 n3 c3) t w.heap.size w (w1.alloc (.cells #[.int .i64 xk, .slice xa1 xn1 xc1, .slice xa2 xn2 xc2, .slice xa3 xn3 xc3] 25))) := NB_below R1.out bA
  have HR2 : Hid (Nv (fun _ => True) (w1.alloc (.cells #[.int .i64 xk, .slice xa1 xn1 xc1, .slice xa2 xn2 xc2, .slice xa3 xn3 xc3] 25)) r1 (.int .i64 xk, .slice xa1 xn1 xc1, .slice xa2 xn2 xc2, .slice xa3 xn3 xc3) ∧ PR t b y r1) := ⟨Nv_below hr1.1 bA, hr1.2⟩
  have HBX : Hid (Bx w1.heap.size (.int .i64 xk, .slice xa1 xn1 xc1, .slice xa2 xn2 xc2, .slice xa3 xn3 xc3) (w1.alloc (.cells #[.int .i64 xk, .slice xa1 xn1 xc1, .slice xa2 xn2 xc2, .slice xa3 xn3 xc3] 25))) := BX1
  clear hb1 hr1 bA BX1 R0 R1 HR1 KX hW q0 q1 q2 q3
  simp only [v4]
  have q0 := R2.out.bx.2.1
  have q1 := R2.out.bx.2.2.1
  have q2 := R2.out.bx.2.2.2.1
  have q3 := R2.out.bx.2.2.2.2
  dsimp only at q0 q1 q2 q3
  go_wp2_with fail
  refine (KY.out _ R2.out).mono ?_
  rintro e w2 ⟨r2, u2, rfl, hr2, hb2⟩
  obtain ⟨zk, za1, zn1, zc1, za2, zn2, zc2, za3, zn3, zc3, rfl⟩ := Nv_form hr2.1
  have bB : Below w2.heap.size w2 (w2.alloc (.cells #[.int .i64 zk, .slice za1 zn1 zc1, .slice za2 zn2 zc2, .slice za3 zn3 zc3] 25)) := (Below.refl _ _).alloc (Nat.le_refl _) _
  have BX2 := Bx_new w2 (.int .i64 zk, .slice za1 zn1 zc1, .slice za2 zn2 zc2, .slice za3 zn3 zc3)
  dsimp only at BX2
  have BX1 := Bx_below (Bx_below HBX.out hb2) bB
  have hz := put_eq HR2.out.2 hr2.2
  have hN1 := Nv_below (Nv_below HR2.out.1 hb2) bB
  have hN2 := Nv_below hr2.1 bB
  have KS : Hid (∀ wx : World, wx = (w2.alloc (.cells #[.int .i64 zk, .slice za1 zn1 zc1, .slice za2 zn2 zc2, .slice za3 zn3 zc3] 25)) → Calls Try.prog 15 #[.agg #[.int .i64 xk, .slice xa1 xn1 xc1, .slice xa2 xn2 xc2, .slice xa3 xn3 xc3], .agg #[.int .i64 zk, .slice za1 zn1 zc1, .slice za2 zn2 zc2, .slice za3 zn3 zc3]] wx fun e w' => e = .returned (.bool true) ∧ Below w.heap.size w w') := fun wx ew => by
    subst ew
    have h := same_any (pr_sm HR2.out.2) r2 _ _ (.int .i64 xk, .slice xa1 xn1 xc1, .slice xa2 xn2 xc2, .slice xa3 xn3 xc3) (.int .i64 zk, .slice za1 zn1 zc1, .slice za2 zn2 zc2, .slice za3 zn3 zc3) _ hN1 hN2
    rw [hz] at h
    refine h.mono fun e w' he => ⟨he.1, ?_⟩
    have b3 := (NB_below (NB_below R2.out hb2) bB).b
    exact b3.trans (he.2.mono b3.size)
  have m0 := BX1.2.1
  have m1 := BX1.2.2.1
  have m2' := BX1.2.2.2.1
  have m3 := BX1.2.2.2.2
  have k0 := BX2.2.1
  have k1 := BX2.2.2.1
  have k2 := BX2.2.2.2.1
  have k3 := BX2.2.2.2.2
  dsimp only at m0 m1 m2' m3 k0 k1 k2 k3
  have cb : (P == P) = true := beq_self_eq_true P
  clear hb2 hr2 bB BX1 BX2 hz hN1 hN2 R2 HR2 HBX KY q0 q1 q2 q3
  simp only [v4]
  go_wp2_with fail
  refine (KS.out _ rfl).mono ?_
  rintro e w9 ⟨rfl, hb9⟩
  have HZ : Hid (Below w.heap.size w w9) := hb9
  clear hb9 KS m0 m1 m2' m3 k0 k1 k2 k3
  go_wp2_with fail
  go_ret
  exact ⟨rfl, HZ.out⟩
end Tr
end Go.Proofs.Ythlgneadcagleaa
/- The library's contract of slices.SortFunc, laid at this dump by the kit's own tool. -/
namespace Go.Proofs
open Go.Shelf
def Try.sortRt_ren : Go.Shelf.Ren := ⟨fun | 6 => 55 | 15 => 68 | 14 => 67 | 28 => 79 | 29 => 80 | 20 => 71 | 21 => 72 | 22 => 73 | 23 => 74 | 24 => 75 | 25 => 76 | 26 => 77 | 27 => 78 | 46 => 82 | 47 => 83 | 48 => 84 | 49 => 85 | 50 => 86 | 57 => 87 | n => n, fun | 22 => 47 | 24 => 51 | 25 => 94 | 3 => 3 | 39 => 78 | 0 => 0 | 53 => 119 | 55 => 121 | 4 => 4 | 46 => 112 | 45 => 111 | 50 => 116 | 5 => 5 | 9 => 9 | 66 => 122 | 70 => 126 | 76 => 128 | 77 => 129 | n => n, fun | n => n⟩
theorem Try.sortRt : Go.Proofs.SlLaysF0.n6 Try.prog Try.sortRt_ren := {
  mixed := by kernel_rfl
  f6 := ⟨Try.f55.name, by decide, Try.func55.trans (congrArg some (by kernel_rfl))⟩
  f14 := ⟨Try.f67.name, by decide, Try.func67.trans (congrArg some (by kernel_rfl))⟩
  f15 := Try.func68.trans (congrArg some (by kernel_rfl))
  f20 := ⟨Try.f71.name, by decide, Try.func71.trans (congrArg some (by kernel_rfl))⟩
  f21 := ⟨Try.f72.name, by decide, Try.func72.trans (congrArg some (by kernel_rfl))⟩
  f22 := ⟨Try.f73.name, by decide, Try.func73.trans (congrArg some (by kernel_rfl))⟩
  f23 := ⟨Try.f74.name, by decide, Try.func74.trans (congrArg some (by kernel_rfl))⟩
  f24 := ⟨Try.f75.name, by decide, Try.func75.trans (congrArg some (by kernel_rfl))⟩
  f25 := ⟨Try.f76.name, by decide, Try.func76.trans (congrArg some (by kernel_rfl))⟩
  f26 := ⟨Try.f77.name, by decide, Try.func77.trans (congrArg some (by kernel_rfl))⟩
  f27 := ⟨Try.f78.name, by decide, Try.func78.trans (congrArg some (by kernel_rfl))⟩
  f28 := Try.func79.trans (congrArg some (by kernel_rfl))
  f29 := Try.func80.trans (congrArg some (by kernel_rfl))
  f46 := ⟨Try.f82.name, by decide, Try.func82.trans (congrArg some (by kernel_rfl))⟩
  f47 := Try.func83.trans (congrArg some (by kernel_rfl))
  f48 := Try.func84.trans (congrArg some (by kernel_rfl))
  f49 := ⟨Try.f85.name, by decide, Try.func85.trans (congrArg some (by kernel_rfl))⟩
  f50 := ⟨Try.f86.name, by decide, Try.func86.trans (congrArg some (by kernel_rfl))⟩
  f57 := ⟨Try.f87.name, by decide, Try.func87.trans (congrArg some (by kernel_rfl))⟩
  t0 := Try.underlying0
  a0 := Try.isAgg0
  z0 := Try.sizeOf0
  v0 := Try.zeroValue0
  t3 := Try.underlying3
  a3 := Try.isAgg3
  z3 := Try.sizeOf3
  v3 := Try.zeroValue3
  t4 := Try.underlying4
  a4 := Try.isAgg4
  z4 := Try.sizeOf4
  v4 := Try.zeroValue4
  t5 := Try.underlying5
  a5 := Try.isAgg5
  z5 := Try.sizeOf5
  v5 := Try.zeroValue5
  t9 := Try.underlying9
  a9 := Try.isAgg9
  z9 := Try.sizeOf9
  v9 := Try.zeroValue9
  t22 := Try.underlying47
  a22 := Try.isAgg47
  z22 := Try.sizeOf47
  v22 := Try.zeroValue47
  t25 := Try.underlying94
  a25 := Try.isAgg94
  z25 := Try.sizeOf94
  v25 := Try.zeroValue94
  t39 := Try.underlying78
  a39 := Try.isAgg78
  z39 := Try.sizeOf78
  v39 := Try.zeroValue78
  t45 := Try.underlying111
  a45 := Try.isAgg111
  z45 := Try.sizeOf111
  v45 := Try.zeroValue111
  t46 := Try.underlying112
  a46 := Try.isAgg112
  z46 := Try.sizeOf112
  v46 := Try.zeroValue112
  t50 := Try.underlying116
  a50 := Try.isAgg116
  z50 := Try.sizeOf116
  v50 := Try.zeroValue116
  t53 := Try.underlying119
  a53 := Try.isAgg119
  z53 := Try.sizeOf119
  v53 := Try.zeroValue119
  t55 := Try.underlying121
  a55 := Try.isAgg121
  z55 := Try.sizeOf121
  v55 := Try.zeroValue121
  t66 := Try.underlying122
  a66 := Try.isAgg122
  z66 := Try.sizeOf122
  v66 := Try.zeroValue122
  t70 := Try.underlying126
  a70 := Try.isAgg126
  z70 := Try.sizeOf126
  v70 := Try.zeroValue126
  t76 := Try.underlying128
  a76 := Try.isAgg128
  z76 := Try.sizeOf128
  v76 := Try.zeroValue128
  t77 := Try.underlying129
  a77 := Try.isAgg129
  z77 := Try.sizeOf129
  v77 := Try.zeroValue129 }
end Go.Proofs
/- slices.SortFunc of routes, by their paths. -/
namespace Go.Proofs.Ythlgneadcagleaa
namespace Tr
open Nb Go.RowKit
theorem below_refl (lo : Nat) (w : World) : Below lo w w := Below.refl lo w
theorem brefl_grown {lo : Nat} {w w' : World} {g : Nat} (h : w.grownBy w' (some g)) (hlo : lo ≤ w.heap.size) (hg : lo ≤ g) : Below lo w w' := (Below.refl lo w).grown h hlo (fun k e => by injection e with e; omega)
open Go.Sort Go.Shelf
def enc2 (r : By × By) : List Value := [.string (st r.1), .string (st r.2)]
def cf2 (x y : By × By) : Int := Lib.compareBytes x.1 y.1
theorem cmp_less : ∀ a b : By, decide (Lib.compareBytes a b < 0) = Op.bytesLess a b
  | [], [] => by simp [Lib.compareBytes, Op.bytesLess]
  | [], _ :: _ => by simp [Lib.compareBytes, Op.bytesLess]
  | _ :: _, [] => by simp [Lib.compareBytes, Op.bytesLess]
  | x :: a, y :: b => by
    have ih := cmp_less a b
    by_cases h1 : x < y
    · simp [Lib.compareBytes, Op.bytesLess, h1]
    · by_cases h2 : x = y
      · subst h2
        simp [Lib.compareBytes, Op.bytesLess, ← ih]
      · have h3 : y < x := by
          rcases Nat.lt_trichotomy x.toNat y.toNat with h | h | h
          · exact absurd (UInt8.lt_iff_toNat_lt.2 h) h1
          · exact absurd (UInt8.toNat_inj.1 h) h2
          · exact UInt8.lt_iff_toNat_lt.2 h
        simp [Lib.compareBytes, Op.bytesLess, h1, h2, h3]
theorem lt2 (x y : By × By) : ltOf cf2 x y = true ↔ less x.1 y.1 := by
  unfold ltOf cf2 less
  rw [cmp_less]
theorem swo2 : SWO (ltOf cf2) where
  irrefl x := by
    cases h : ltOf cf2 x x with
    | false => rfl
    | true => exact absurd ((lt2 x x).1 h) (less_irrefl _)
  trans x y z h1 h2 := (lt2 x z).2 (less_trans _ _ _ ((lt2 x y).1 h1) ((lt2 y z).1 h2))
  ntrans x y z h1 h2 := by
    cases h : ltOf cf2 x z with
    | false => rfl
    | true =>
      exfalso
      have hxz := (lt2 x z).1 h
      have n1 : ¬ less x.1 y.1 := fun k => by rw [(lt2 x y).2 k] at h1; cases h1
      have n2 : ¬ less y.1 z.1 := fun k => by rw [(lt2 y z).2 k] at h2; cases h2
      rcases less_total x.1 y.1 with k | k | k
      · exact n1 k
      · rw [k] at hxz; exact n2 hxz
      · exact n2 (less_trans _ _ _ k hxz)
theorem c2_at2 : ∀ (L : Rt) (t : Nat), t < L.length * 2 → (c2 L)[t]? = some ((enc2 (L.getD (t / 2) n2))[t % 2]!)
  | [], t, h => absurd h (by simp)
  | r :: L, 0, _ => rfl
  | r :: L, 1, _ => rfl
  | r :: L, t + 2, h => by
    have ih := c2_at2 L t (by simp only [List.length_cons] at h; omega)
    have e1 : (t + 2) / 2 = t / 2 + 1 := by omega
    have e2 : (t + 2) % 2 = t % 2 := by omega
    rw [e1, e2, List.getD_cons_succ, ← ih]
    rfl
theorem flat_get (L : Rt) (t : Nat) (h : t < L.length * 2) : (flatK enc2 2 L.toArray)[t]! = (enc2 (L.getD (t / 2) n2))[t % 2]! := by
  rw [get_flatK enc2 2 L.toArray t (by simpa using h)]
  have hd : t / 2 < L.length := by omega
  have e : L.toArray[t / 2]! = L.getD (t / 2) n2 := by
    rw [List.getD_eq_getElem?_getD, List.getElem?_eq_getElem hd]
    simp [hd]
  rw [e]
set_option maxHeartbeats 1000000 in
theorem cmp_any (x y : By × By) (W : World) : Calls Try.prog 56 #[.agg #[.string (st x.1), .string (st x.2)], .agg #[.string (st y.1), .string (st y.2)]] W fun e w' => e = .returned (.int .i64 (cf2 x y)) ∧ ∃ q os', w' = Go.Sort.grow (W.drewN q) os' := by
  have hcon := fun W' => Try.strings_Compare (st x.1) (st y.1) W'
  have e : cf2 x y = Lib.compareBytes (st x.1).data.toList (st y.1).data.toList := rfl
  rw [e]
  clear e
  generalize Lib.compareBytes (st x.1).data.toList (st y.1).data.toList = r at hcon ⊢
  go_enter Try.func56, Try.ntmps56
  go_wp2_with (go_at_call 57; refine (hcon _).mono ?_; rintro e w' ⟨rfl, rfl⟩)
  go_ret
  exact ⟨rfl, 0, _, by rw [alloc_eq_grow, alloc_eq_grow, grow_grow]; rfl⟩
theorem heap_sortedK {w : World} {g n : Nat} {os : Array Obj} {cur : Array Value} {e : TypeId} {fr : Nat × Nat} (F : Array Value) (hb : w.heap[g]? = some (.cells cur e fr)) :
    (Go.Sort.grow (putRow id (Go.Sort.ahead w n) g 0 F) os).heap[g]? = some (.cells (putCells id 0 F cur) e fr) := by
  have hg : g < w.heap.size := (Array.getElem?_eq_some_iff.1 hb).1
  rw [heap_grow_old _ _ (by simpa using hg)]
  simp [putRow, mapBlock, Go.Sort.ahead, Array.getElem?_modify, hb, onCells]
theorem grownBy_sortedK {w : World} {g n : Nat} {os : Array Obj} (F : Array Value) : w.grownBy (Go.Sort.grow (putRow id (Go.Sort.ahead w n) g 0 F) os) (some g) := by
  refine ⟨rfl, rfl, rfl, by simp, fun k hk hne => ?_⟩
  rw [heap_grow_old _ _ (by simpa using hk)]
  have : g ≠ k := fun e => hne (by rw [e])
  simp [putRow, mapBlock, Go.Sort.ahead, Array.getElem?_modify, this]
theorem take_putK (cur : Array Value) (L : Rt) (h : L.length * 2 ≤ cur.size) : (putCells id 0 (flatK enc2 2 L.toArray) cur).toList.take (L.length * 2) = c2 L := by
  apply List.ext_getElem?
  intro j
  by_cases hj : j < L.length * 2
  · rw [List.getElem?_take_of_lt hj, Array.getElem?_toList, c2_at2 L j hj, ← flat_get L j hj]
    have hc : j < cur.size := by omega
    simp [putCells, hj, hc]
  · rw [List.getElem?_take_eq_none (by omega), List.getElem?_eq_none (by rw [c2_len]; omega)]
theorem holds_own {lo : Nat} {L : Rt} {g cap : Nat} {w : World} (h : Ow lo L (.slice (some ⟨g, 0, none⟩) L.length cap) w) : HoldsK enc2 2 w g 0 L.toArray := fun j hj => by
  have hj' : j < L.length * 2 := by simpa using hj
  refine ⟨?_, World.ownsRow.frozenAt h _⟩
  rw [Nat.zero_add, World.ownsRow.cellAt h j hj', c2_at2 L j hj', flat_get L j hj']
  rfl
theorem sort_some (lo : Nat) (L : Rt) (g cap : Nat) (w : World) (how : Ow lo L (.slice (some ⟨g, 0, none⟩) L.length cap) w) (hlo : lo ≤ w.heap.size) (hl : L.length ≤ 4194304) :
    Calls Try.prog 55 #[.slice (some ⟨g, 0, none⟩) L.length cap, .func (.func 56) #[] #[]] w fun e w' => e = .returned (.tuple #[]) ∧ ∃ L2 : Rt, L2.Perm L ∧ (L2.Pairwise fun a b => ¬ less b.1 a.1) ∧ Ow lo L2 (.slice (some ⟨g, 0, none⟩) L.length cap) w' ∧ Below lo w w' := by
  have eg : ∀ args w, (callFunc 56 args).run Try.prog w = .ok (.enter 56 args) w := enters_of Try.func56 (by kernel_rfl) rfl
  have hg := ow_low how
  have hcon := AnyQ.slices_SortFunc Try.sortRt 2 Try.isAgg51 Try.sizeOf51 enc2 (fun _ => rfl) (fun x v hv => by simp [enc2] at hv; rcases hv with rfl | rfl <;> rfl) cf2 swo2 56 #[] g 0 cap L.toArray w eg (fun _ _ _ _ x y => cmp_any x y _) (holds_own how) hg.2 (by simp; omega)
  have hcon' : Calls Try.prog 55 #[.slice (some ⟨g, 0, none⟩) L.length cap, .func (.func 56) #[] #[]] w _ := hcon
  refine hcon'.mono fun e w' he => ?_
  obtain ⟨e1, d', n, os, hp, hsd, rfl⟩ := he
  have hsz : d'.size = L.length := by simpa using hp.1
  have hlen : d'.toList.length = L.length := by simpa using hsz
  refine ⟨e1, d'.toList, ?_, ?_, ?_, ?_⟩
  · have h := hp.2.2
    have x1 : d'.extract 0 L.toArray.size = d' := by
      rw [show L.toArray.size = d'.size from by simp [hsz]]
      simp
    rw [x1] at h
    simpa using h
  · rw [List.pairwise_iff_getElem]
    intro i j hi hj hij hless
    have h := hsd i j (Nat.zero_le _) hij (by simp; omega)
    have y1 : d'[j]! = d'.toList[j] := by rw [getElem!_pos d' j (by omega)]; rfl
    have y2 : d'[i]! = d'.toList[i] := by rw [getElem!_pos d' i (by omega)]; rfl
    rw [y1, y2, (lt2 _ _).2 hless] at h
    cases h
  · rcases how.2 with ⟨h', _⟩ | ⟨g', cap', cur, h', hb, hgb, hnc, hcm, hcs, htake⟩
    · cases h'
    · injection h' with k1 _ k3
      injection k1 with k1
      injection k1 with k1
      subst k1 k3
      refine ⟨by rw [c2_len], .inr ⟨g, cap, _, by rw [hlen], hb, heap_sortedK _ hgb, by rw [hlen]; exact hnc, hcm, by simp [putCells, hcs], ?_⟩⟩
      have h := take_putK cur d'.toList (by rw [hlen, hcs]; omega)
      simpa using h
  · exact brefl_grown (grownBy_sortedK _) hlo hg.1
set_option maxHeartbeats 2000000 in
set_option maxRecDepth 100000 in
theorem ins_none (w : World) : Calls Try.prog 71 #[.slice none 0 0, .int .i64 0, .int .i64 0, .func (.func 56) #[] #[]] w fun e w' => e = .returned (.tuple #[]) ∧ w' = w := by
  go_enter Try.func71, Try.ntmps71
  go_wp2_with fail
  go_loopw [8] (fun i wr => i = .int .i64 1 ∧ wr = w) (fun _ _ => 0)
  case atStart => exact ⟨rfl, rfl⟩
  case round =>
    obtain ⟨rfl, rfl⟩ := hrel
    go_wp2_with fail
    go_end0
    exact ⟨rfl, rfl⟩
set_option maxHeartbeats 2000000 in
set_option maxRecDepth 100000 in
theorem pdq_none (lim : Value) (w : World) : Calls Try.prog 67 #[.slice none 0 0, .int .i64 0, .int .i64 0, lim, .func (.func 56) #[] #[]] w fun e w' => e = .returned (.tuple #[]) ∧ w' = w := by
  have KI : Hid (∀ wx : World, Calls Try.prog 71 #[.slice none 0 0, .int .i64 0, .int .i64 0, .func (.func 56) #[] #[]] wx fun e w' => e = .returned (.tuple #[]) ∧ w' = wx) := fun wx => ins_none wx
  go_enter Try.func67, Try.ntmps67
  go_wp2_with fail
  go_loopw [1, 2] (fun i j wr => i = .int .i64 0 ∧ j = .int .i64 0 ∧ wr = w) (fun _ _ _ => 0)
  case atStart => exact ⟨rfl, rfl, rfl⟩
  case round =>
    obtain ⟨rfl, rfl, rfl⟩ := hrel
    go_wp2_with fail
    refine (KI.out _).mono ?_
    rintro e w1 ⟨rfl, rfl⟩
    go_wp2_with fail
    (try simp only [Exit.inBlock, Exit.then])
    refine bodyPost_ret (results_none rfl _ _ _) rfl ?_
    exact ⟨rfl, rfl⟩
set_option maxHeartbeats 2000000 in
set_option maxRecDepth 100000 in
theorem sort_none (w : World) : Calls Try.prog 55 #[.slice none 0 0, .func (.func 56) #[] #[]] w fun e w' => e = .returned (.tuple #[]) ∧ w' = w := by
  have KB : Hid (∀ wx : World, Calls Try.prog 68 #[.int .u64 0] wx fun e w' => e = .returned (.int .i64 (Lib.bitLen (0 : Int).toNat)) ∧ w' = wx) := fun wx => Try.bits_Len 0 wx (by decide) (by decide)
  have KP : Hid (∀ (lim : Value) (wx : World), Calls Try.prog 67 #[.slice none 0 0, .int .i64 0, .int .i64 0, lim, .func (.func 56) #[] #[]] wx fun e w' => e = .returned (.tuple #[]) ∧ w' = wx) := fun lim wx => pdq_none lim wx
  go_enter Try.func55, Try.ntmps55
  go_wp2_with fail
  refine (KB.out _).mono ?_
  rintro e w1 ⟨rfl, rfl⟩
  go_wp2_with fail
  refine (KP.out _ _).mono ?_
  rintro e w1 ⟨rfl, rfl⟩
  go_wp2_with fail
  go_end0
  exact ⟨rfl, rfl⟩
theorem sort_ok : SortOk := fun lo L v w how hlo hl => by
  have how' := how
  rcases how'.2 with ⟨rfl, h0⟩ | ⟨g, cap, cur, rfl, _⟩
  · have hL : L = [] := List.length_eq_zero_iff.1 h0
    subst hL
    refine (sort_none w).mono fun e w' he => ?_
    obtain ⟨e1, rfl⟩ := he
    exact ⟨e1, [], List.Perm.refl _, List.Pairwise.nil, how, below_refl _ _⟩
  · refine (sort_some lo L g cap w how hlo hl).mono fun e w' he => ?_
    obtain ⟨e1, L2, h1, h2, h3, h4⟩ := he
    exact ⟨e1, L2, h1, h2, h3, h4⟩
end Tr
end Go.Proofs.Ythlgneadcagleaa
/- The law TreePuts and what slices.SortFunc does, together. -/
namespace Go.Proofs.Ythlgneadcagleaa
namespace Tr
theorem sort_ok' : SortOk := sort_ok
end Tr
end Go.Proofs.Ythlgneadcagleaa
