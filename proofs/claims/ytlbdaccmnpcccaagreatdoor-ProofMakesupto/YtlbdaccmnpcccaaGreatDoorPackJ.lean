import Derived.Test.YtlbdaccmnpcccaaGreatDoorPackI
import Derived.Test.YtlbdaccmnpcccaaGreatDoorPackA
import Derived.Test.YtlbdaccmnpcccaaGreatDoorPackC
import Derived.Deep.Cut
import Derived.ProofKit
import Derived.OpenShut
import Derived.ShutString
import Derived.ChangeOld
import Derived.Lib.SmallJoins
import Derived.SizedLaws
import Derived.Test.YtlbdaccmnpcccaaGreatDoorPackH
import Derived.Test.YtlbdaccmnpcccaaGreatDoorPackF
import Derived.Shelf.SlGeneric
import Derived.Ground.SlgnProg
import Derived.Shelf.SlicesE.Reverse
import Derived.Test.YtlbdaccmnpcccaaGreatDoorProg
import Derived.Lib.OwnBridge
import Derived.Test.YtlbdaccmnpcccaaGreatDoorPackE
set_option maxRecDepth 100000
set_option maxHeartbeats 4000000
namespace Go.Proofs.YtlbdaccmnpcccaaGreatDoor
namespace Tr
open Nb Go.RowKit
structure GX (w : World) (B g2 g4 gk : Nat) (v : By) (vv : Value) (T : Nat → Nd) (i lo : Nat) (pt : Rt) (pv : Value) (f : Bool) (wx : World) : Prop where
 a : f = false → GO w B g2 g4 gk v vv T i wx
 o : f = false → Ow lo pt pv wx
 e : f = true → GO w B g2 g4 gk v vv T (i + 1) wx
theorem GX_below {w : World} {B g2 g4 gk : Nat} {v : By} {vv : Value} {T : Nat → Nd} {i lo : Nat} {pt : Rt} {pv : Value} {f : Bool} {wx w' : World} (h : GX w B g2 g4 gk v vv T i lo pt pv f wx) (hb : Below wx.heap.size wx w') : GX w B g2 g4 gk v vv T i lo pt pv f w' :=
 ⟨fun e => GO_below (h.a e) hb,fun e => Pk.ownb (h.o e) hb,fun e => GO_below (h.e e) hb⟩
theorem there_sub {w : World} {g i : Nat} (h : w.there g 0 64) (hi : i < 16) : w.there g (i * 4) 4 := fun j hj => by
 have := h (i * 4 + j) (by omega); rwa [Nat.zero_add] at this
structure GV (w : World) (B g2 g4 gk : Nat) (v : By) (T : Nat → Nd) (f8 f9 : Bool) (sl u0 : Value) (wx : World) : Prop where
 a : f8 = false → GO w B g2 g4 gk [] (.slice none 0 0) T 0 wx
 b : Below w.heap.size w wx
 e : f8 = true → ∃ a c,GO w B g2 g4 gk v (.slice a v.length c) T 0 wx
 m : f9 = false → u0 = sl
theorem GV_set {w : World} {B g2 g4 gk : Nat} {v : By} {T : Nat → Nd} {wx : World} {a : Option Addr} {c : Nat} (h : GO w B g2 g4 gk [] (.slice none 0 0) T 0 wx) (hne : g2 ≠ g4 ∧ gk ≠ g4 ∧ g4 < B ∧ w.heap.size ≤ g4) (hb : Bs (B ≤ ·) v (.slice a v.length c) wx) : GO w B g2 g4 gk v (.slice a v.length c) T 0 (wx.setCell ⟨g4,2,none⟩ (.slice a v.length c)) := by
 have gb := gb_set wx g4 2 (.slice a v.length c); have NE : ∀ k,B ≤ k → some k ≠ some g4 := fun k hk e => by injection e with e; omega
 exact ⟨h.b.grown gb h.b.size (fun k e => by injection e with e; omega),Nat.le_trans h.s gb.size,B4_gb h.v gb (fun e => by injection e with e; exact hne.1 e),F4_set h.f _,KB_gb h.k gb (fun e => by injection e with e; exact hne.2.1 e) NE,Bs_gb hb gb NE⟩
theorem st_head : ∀ (x : By) (_ : x ≠ []) (h : 0 < (st x).size),((st x)[0]'h).toNat = (x.headD 0).toNat
 | [],hx,_ => absurd rfl hx
 | _ :: _,_,_ => rfl
theorem msr_up' (k n : Nat) (h : k < n) : ((n : Int) - intOf (.int .i64 ((k : Int) + 1))).toNat < ((n : Int) - intOf (.int .i64 (k : Int))).toNat := by
 simp only [intOf]; omega
inductive GK21n (w : World) (B lo : Nat) (T : Nat → Nd) (v : By) (pt : Rt) (g off n cap g2 g4 gk i k : Nat) (X : ByteArray) (oa : Option Addr) (on oc : Nat) (v8 v27 v28 v29 v30 v31 v32 v33 v34 v35 v36 v37 v38 v39 v40 v78 v79 v80 v81 v82 v83 v84 v85 v86 v87 v88 v89 v90 v98 : Value) (d : Nat → Bool) (x : Act) (wx : World) : Prop where
 | mk (u91 u92 u93 u94 u95 u96 u97 : Value) (hx : x = { tmps := #[.slice (some ⟨g,off,none⟩) n cap,undef,.pointer (some ⟨g2,0,none⟩),.int .i64 0,.pointer (some ⟨g4,0,none⟩),.int .i64 (i : Int),.slice oa on oc,undef,v8,.slice (some ⟨g,off,none⟩) n cap,.int .i64 (n : Int),.bool false,undef,.slice (some ⟨g,off,none⟩) n cap,.int .i64 (n : Int),.bool false,undef,undef,undef,undef,undef,undef,undef,undef,undef,undef,undef,v27,v28,v29,v30,v31,v32,v33,v34,v35,v36,v37,v38,v39,v40,.int .i64 0,.bool false,undef,undef,undef,undef,undef,undef,undef,undef,undef,undef,undef,undef,undef,.slice (some ⟨gk,0,none⟩) 16 16,.agg #[.int .i64 3,.slice none 0 0,.slice none 0 0,.slice (some ⟨gk,0,none⟩) 16 16],.slice (some ⟨g,off,none⟩) n cap,.pointer (some ⟨g,off,none⟩),.pointer (some ⟨g,off,none⟩),.string X,.bool false,undef,undef,undef,undef,undef,undef,undef,undef,.int .i64 (i : Int),.bool true,.int .i64 (i : Int),.slice (some ⟨g,off,none⟩) n cap,.int .i64 (n : Int),.int .i64 (k : Int),.bool false,v78,v79,v80,v81,v82,v83,v84,v85,v86,v87,v88,v89,v90,u91,u92,u93,u94,u95,u96,u97,v98,undef],defers := [] }) (hw : GX w B g2 g4 gk v (.slice none 0 0) T i lo pt (.slice oa on oc) (d 7) wx) (p0 : d 0 = true → u91 = .pointer (some ⟨g4,3,none⟩)) (p1 : d 1 = true → u92 = .slice (some ⟨gk,0,none⟩) 16 16) (p2 : d 2 = true → u93 = .int .i64 (i : Int)) (p3 : d 3 = true → u94 = .slice oa on oc) (p6 : d 6 = true → u97 = .pointer (some ⟨gk,i * 4,none⟩)) (z4 : d 4 = true → d 7 = false → Rv (cut 1 pt) u95 wx) (z5 : d 5 = true → ∃ y,u96 = v4 y ∧ (d 7 = false → Nv (B ≤ ·) wx (T i) y)) (y7 : d 7 = true → d 1 = true ∧ d 4 = true ∧ d 5 = true) : GK21n w B lo T v pt g off n cap g2 g4 gk i k X oa on oc v8 v27 v28 v29 v30 v31 v32 v33 v34 v35 v36 v37 v38 v39 v40 v78 v79 v80 v81 v82 v83 v84 v85 v86 v87 v88 v89 v90 v98 d x wx
theorem grown_fork_n (l M : Rt) (p q v : By) (g off cap n m : Nat) (w : World) (hn : 2 ≤ n) (hm : m + 1 = n) (hn2 : n ≤ 1048576) (hln : l.length = n) (_hcap : n ≤ cap) (hg0 : g < w.heap.size) (hp : (l.getD 0 n2).1 = p) (hq : (l.getD m n2).1 = q) (hp0 : p ≠ []) (hv : v = []) (hM : M = l) (hM1 : Hid (∀ r ∈ M,r.1 ≠ []))
  (hcl : Hid (∀ j,j < l.length → w.cell? ⟨g,off + 2 * j,none⟩ = some (.string (st (l.getD j n2).1)) ∧ w.cell? ⟨g,off + 2 * j + 1,none⟩ = some (.string (st (l.getD j n2).2))))
  (T : Nat → Nd) (KG : Hid (∀ (i : Nat) (x : Value) (wx : World),i < 16 → Rv (cut 1 (prt i M)) x wx → Calls Tryz.prog 43 #[x] wx fun e w' => ∃ y : V4,e = .returned (v4 y) ∧ Nv (wx.heap.size ≤ ·) w' (T i) y ∧ Below wx.heap.size wx w'))
  (hpl : p.length ≤ 4194304) (hql : q.length ≤ 4194304) (KN : Hid (∀ (a b : Value) (wx : World),SlC p a wx → SlC q b wx → Calls Tryz.prog 67 #[a,b] wx fun e w' => e = .returned (.int .i64 0) ∧ Below wx.heap.size wx w')) :
  Calls Tryz.prog 43 #[.slice (some ⟨g,off,none⟩) n cap] w fun e w' => ∃ u : V4,e = .returned (v4 u) ∧ Nv (w.heap.size ≤ ·) w' (.mk 3 [] v ((List.range 16).map T)) u ∧ Below w.heap.size w w' := by
 have h0 : w.cell? ⟨g,off,none⟩ = some (.string (st p)) := by have := (hcl.out 0 (by omega)).1; rw [hp] at this; exact this
 have h1 : w.cell? ⟨g,off + m * 2,none⟩ = some (.string (st q)) := by have := (hcl.out m (by omega)).1; rw [hq,Nat.mul_comm] at this; exact this
 have B0 : Below w.heap.size w (w.alloc (.cells #[.int .i64 0,.slice none 0 0,.slice none 0 0,.slice none 0 0] 25)) := (Below.refl _ _).alloc (Nat.le_refl _) _; have k0 := (B0.cell (p := ⟨g,off,none⟩) hg0).trans h0; have l0 := (B0.cell (p := ⟨g,off + m * 2,none⟩) hg0).trans h1; have hg : g < (w.alloc (.cells #[.int .i64 0,.slice none 0 0,.slice none 0 0,.slice none 0 0] 25)).heap.size := Nat.lt_of_lt_of_le hg0 B0.size; have HX : Hid (∀ W : World,∃ c W',(convert 9 22 (.string (st p))).run Tryz.prog W = .ok (.slice (some ⟨W.heap.size,0,none⟩) p.length c) W' ∧ SlC p (.slice (some ⟨W.heap.size,0,none⟩) p.length c) W' ∧ W'.heap.size = W.heap.size + 1 ∧ Below W.heap.size W W') := st_slc p hpl; have HY : Hid (∀ W : World,∃ c W',(convert 9 22 (.string (st q))).run Tryz.prog W = .ok (.slice (some ⟨W.heap.size,0,none⟩) q.length c) W' ∧ SlC q (.slice (some ⟨W.heap.size,0,none⟩) q.length c) W' ∧ W'.heap.size = W.heap.size + 1 ∧ Below W.heap.size W W') := st_slc q hql; have HV : Hid (∀ W : World,∃ c W',(convert 9 22 (.string (st v))).run Tryz.prog W = .ok (.slice (some ⟨W.heap.size,0,none⟩) v.length c) W' ∧ Pk.Sl v (.slice (some ⟨W.heap.size,0,none⟩) v.length c) W' ∧ W'.heap.size = W.heap.size + 1 ∧ Below W.heap.size W W') := st_sl v; have BV := B4_new w; have HGL : Hid (w.heap.size ≤ (w.alloc (.cells #[.int .i64 0,.slice none 0 0,.slice none 0 0,.slice none 0 0] 25)).heap.size) := B0.size; have HG2 : Hid (w.heap.size < (w.alloc (.cells #[.int .i64 0,.slice none 0 0,.slice none 0 0,.slice none 0 0] 25)).heap.size) := by show _ < _; simp
 have e0 : ((n : Int) == 0) = false := beq_eq_false_iff_ne.2 (by omega); have e1 : ((n : Int) == 1) = false := beq_eq_false_iff_ne.2 (by omega); have e2 : (n == 0) = false := beq_eq_false_iff_ne.2 (by omega); have e3 : (n == 1) = false := beq_eq_false_iff_ne.2 (by omega); have i0 : (0 : Int) < (n : Int) := by omega
 have i1 : IntKind.i64.wrap ((n : Int) - 1) = (m : Int) := by rw [IntKind.wrap_i64]; omega
 have i2 : (0 : Int) ≤ (m : Int) := by omega
 have i3 : (m : Int) < (n : Int) := by omega
 have i4 : 0 < n := by omega
 have i5 : m < n := by omega
 have HC0 : Hid (g < w.heap.size) := hg0; have HN : Hid (l.length = n ∧ 2 ≤ n ∧ n ≤ 1048576 ∧ m + 1 = n) := ⟨hln,hn,hn2,hm⟩; have HM : Hid (M = l) := hM; have HXI : Hid ((st p).toList.isEmpty = false) := by show _ = _; rw [st_list]; cases p with | nil => exact absurd rfl hp0 | cons _ _ => rfl
 have HVE : Hid (v = []) := hv; have HML : Hid (M.length = n) := by show _ = _; rw [hM]; exact hln
 have HMC : Hid (∀ j,j < n → w.cell? ⟨g,off + 2 * j,none⟩ = some (.string (st (M.getD j n2).1)) ∧ w.cell? ⟨g,off + 2 * j + 1,none⟩ = some (.string (st (M.getD j n2).2))) := by rw [hM]; rw [← hln]; exact hcl.out
 clear hp hq hM hn hm hn2 hln hp0 hv; generalize st p = X at *; generalize st q = Y at *; clear h1 hg0; go_enter Tryz.func43,Tryz.ntmps43
 go_upto_region 5 with fail
 generalize w.alloc (.cells #[.int .i64 0,.slice none 0 0,.slice none 0 0,.slice none 0 0] 25) = W0 at *; obtain ⟨g2,eg2⟩ : ∃ g2,g2 = w.heap.size := ⟨_,rfl⟩; have HG2B : Hid (w.heap.size ≤ g2) := by show _ ≤ _; omega
 rw [← eg2] at BV HG2 ⊢; have E2 : Hid (g2 = w.heap.size) := eg2; clear eg2; have hw0 : Below W0.heap.size W0 W0.drew := (Below.refl _ _).drew; refine RI.wp_region_inv (GC5 W0 p q g off n m cap g2 0 X Y) (by kernel_rfl) (by kernel_rfl) ?_ ?_ ?_
 ·exact ⟨undef,undef,undef,undef,undef,undef,undef,undef,undef,undef,undef,undef,undef,undef,undef,rfl,hw0,nofun,nofun,nofun,nofun,nofun,nofun,nofun,nofun,nofun,nofun,nofun,nofun,nofun,nofun,nofun⟩
 ·skip
  intro d x wx i hI hi hm; obtain ⟨u3,u27,u28,u29,u30,u31,u32,u33,u34,u35,u36,u37,u38,u39,u40,rfl,hw,p0,p1,p2,p3,p5,p6,p7,p8,p9,p10,p11,p13,p14,z4,z12⟩ := hI; have hi' : i = 0 ∨ i = 1 ∨ i = 2 ∨ i = 3 ∨ i = 4 ∨ i = 5 ∨ i = 6 ∨ i = 7 ∨ i = 8 ∨ i = 9 ∨ i = 10 ∨ i = 11 ∨ i = 12 ∨ i = 13 ∨ i = 14 := by simp at hi; omega
  have hd := hm.2; have hf := hm.1; clear hm hi; rcases hi' with rfl | rfl | rfl | rfl | rfl | rfl | rfl | rfl | rfl | rfl | rfl | rfl | rfl | rfl | rfl
  ·refine RI.wpOp_plain rfl rfl ?_; go_simp; exact ⟨u3,_,u28,u29,u30,u31,u32,u33,u34,u35,u36,u37,u38,u39,u40,rfl,hw,fun _ => rfl,p1,p2,p3,p5,p6,p7,p8,p9,p10,p11,p13,p14,z4,z12⟩
  ·have hd := hd _ rfl; simp [Region.binds] at hd
   obtain rfl := p0 (by simp [hd]); refine RI.wpOp_plain rfl rfl ?_; go_simp; exact ⟨u3,_,_,u29,u30,u31,u32,u33,u34,u35,u36,u37,u38,u39,u40,rfl,hw,p0,fun _ => rfl,p2,p3,p5,p6,p7,p8,p9,p10,p11,p13,p14,z4,z12⟩
  ·have hd := hd _ rfl; simp [Region.binds] at hd
   obtain rfl := p1 (by simp [hd]); refine RI.wpOp_plain rfl rfl ?_; go_simp; exact ⟨u3,u27,_,_,u30,u31,u32,u33,u34,u35,u36,u37,u38,u39,u40,rfl,hw,p0,p1,fun _ => rfl,p3,p5,p6,p7,p8,p9,p10,p11,p13,p14,z4,z12⟩
  ·have hd := hd _ rfl; simp [Region.binds] at hd
   obtain rfl := p2 (by simp [hd]); refine RI.wpOp_plain rfl rfl ?_; have x0 := (hw.cell (p := ⟨g,off,none⟩) hg).trans k0; go_simp; exact ⟨u3,u27,u28,_,_,u31,u32,u33,u34,u35,u36,u37,u38,u39,u40,rfl,hw,p0,p1,p2,fun _ => rfl,p5,p6,p7,p8,p9,p10,p11,p13,p14,z4,z12⟩
  ·have hd := hd _ rfl; simp [Region.binds] at hd
   obtain rfl := p3 (by simp [hd]); refine RI.wpOp_plain rfl rfl ?_; obtain ⟨cq,w1,hcv,hs1,hsz,hb1⟩ := HX.out wx; go_simp; exact ⟨u3,u27,u28,u29,_,_,u32,u33,u34,u35,u36,u37,u38,u39,u40,rfl,hw.trans (hb1.mono hw.size),p0,p1,p2,p3,p5,p6,p7,p8,p9,p10,p11,p13,p14,fun _ => hs1,(fun h => SlC_below (z12 h) hb1)⟩
  ·refine RI.wpOp_plain rfl rfl ?_; go_simp; exact ⟨u3,u27,u28,u29,u30,u31,_,u33,u34,u35,u36,u37,u38,u39,u40,rfl,hw,p0,p1,p2,p3,fun _ => rfl,p6,p7,p8,p9,p10,p11,p13,p14,z4,z12⟩
  ·refine RI.wpOp_plain rfl rfl ?_; go_simp; exact ⟨u3,u27,u28,u29,u30,u31,u32,_,u34,u35,u36,u37,u38,u39,u40,rfl,hw,p0,p1,p2,p3,p5,fun _ => rfl,p7,p8,p9,p10,p11,p13,p14,z4,z12⟩
  ·have hd := hd _ rfl; simp [Region.binds] at hd
   obtain rfl := p6 (by simp [hd]); refine RI.wpOp_plain rfl rfl ?_; go_simp; exact ⟨u3,u27,u28,u29,u30,u31,u32,_,_,u35,u36,u37,u38,u39,u40,rfl,hw,p0,p1,p2,p3,p5,p6,fun _ => rfl,p8,p9,p10,p11,p13,p14,z4,z12⟩
  ·have hd := hd _ rfl; simp [Region.binds] at hd
   obtain rfl := p7 (by simp [hd]); refine RI.wpOp_plain rfl rfl ?_; go_simp; exact ⟨u3,u27,u28,u29,u30,u31,u32,u33,_,_,u36,u37,u38,u39,u40,rfl,hw,p0,p1,p2,p3,p5,p6,p7,fun _ => rfl,p9,p10,p11,p13,p14,z4,z12⟩
  ·have hd := hd _ rfl; simp [Region.binds] at hd
   obtain rfl := p5 (by simp [hd]); obtain rfl := p8 (by simp [hd]); refine RI.wpOp_plain rfl rfl ?_; go_simp; exact ⟨u3,u27,u28,u29,u30,u31,_,u33,u34,_,_,u37,u38,u39,u40,rfl,hw,p0,p1,p2,p3,p5,p6,p7,p8,fun _ => rfl,p10,p11,p13,p14,z4,z12⟩
  ·have hd := hd _ rfl; simp [Region.binds] at hd
   obtain rfl := p9 (by simp [hd]); refine RI.wpOp_plain rfl rfl ?_; go_simp; exact ⟨u3,u27,u28,u29,u30,u31,u32,u33,u34,u35,_,_,u38,u39,u40,rfl,hw,p0,p1,p2,p3,p5,p6,p7,p8,p9,fun _ => rfl,p11,p13,p14,z4,z12⟩
  ·have hd := hd _ rfl; simp [Region.binds] at hd
   obtain rfl := p10 (by simp [hd]); refine RI.wpOp_plain rfl rfl ?_; have x0 := (hw.cell (p := ⟨g,off + m * 2,none⟩) hg).trans l0; go_simp; exact ⟨u3,u27,u28,u29,u30,u31,u32,u33,u34,u35,u36,_,_,u39,u40,rfl,hw,p0,p1,p2,p3,p5,p6,p7,p8,p9,p10,fun _ => rfl,p13,p14,z4,z12⟩
  ·have hd := hd _ rfl; simp [Region.binds] at hd
   obtain rfl := p11 (by simp [hd]); refine RI.wpOp_plain rfl rfl ?_; obtain ⟨cq,w1,hcv,hs1,hsz,hb1⟩ := HY.out wx; go_simp; exact ⟨u3,u27,u28,u29,u30,u31,u32,u33,u34,u35,u36,u37,_,_,u40,rfl,hw.trans (hb1.mono hw.size),p0,p1,p2,p3,p5,p6,p7,p8,p9,p10,p11,p13,p14,(fun h => SlC_below (z4 h) hb1),fun _ => hs1⟩
  ·have hd := hd _ rfl; simp [Region.binds] at hd
   refine RI.wpOp_plain rfl rfl ?_; go_simp; refine (KN.out _ _ _ (z4 (by simp [hd])) (z12 (by simp [hd]))).mono ?_; rintro e w1 ⟨rfl,hb1⟩; exact ⟨u3,u27,u28,u29,u30,u31,u32,u33,u34,u35,u36,u37,u38,u39,_,rfl,hw.trans (hb1.mono hw.size),p0,p1,p2,p3,p5,p6,p7,p8,p9,p10,p11,fun _ => rfl,p14,(fun h => SlC_below (z4 h) hb1),(fun h => SlC_below (z12 h) hb1)⟩
  ·have hd := hd _ rfl; simp [Region.binds] at hd
   obtain rfl := p0 (by simp [hd]); obtain rfl := p1 (by simp [hd]); obtain rfl := p2 (by simp [hd]); obtain rfl := p3 (by simp [hd]); obtain rfl := p5 (by simp [hd]); obtain rfl := p6 (by simp [hd]); obtain rfl := p7 (by simp [hd]); obtain rfl := p8 (by simp [hd]); obtain rfl := p9 (by simp [hd]); obtain rfl := p10 (by simp [hd]); obtain rfl := p11 (by simp [hd]); obtain rfl := p13 (by simp [hd]); refine RI.wpOp_plain rfl rfl ?_; go_simp; exact ⟨_,_,_,_,_,u31,_,_,_,_,_,_,_,u39,_,rfl,hw,p0,p1,p2,p3,p5,p6,p7,p8,p9,p10,p11,p13,fun _ => rfl,z4,z12⟩
 ·skip
  intro d x wx hI hd; obtain ⟨u3,u27,u28,u29,u30,u31,u32,u33,u34,u35,u36,u37,u38,u39,u40,rfl,hw,p0,p1,p2,p3,p5,p6,p7,p8,p9,p10,p11,p13,p14,z4,z12⟩ := hI; obtain rfl := p14 (hd 14 (by decide)); clear p0 p1 p2 p3 p5 p6 p7 p8 p9 p10 p11 p13 z4 z12; obtain ⟨w8,hr8,hs8,ht8,hb8⟩ := made16 wx; have hXi : X.toList.isEmpty = false := HXI.out; have HW8 : Hid (Below W0.heap.size W0 w8) := hw.trans (hb8.mono hw.size); have HA4 := heap_alloc_new w8 (.cells #[.int .i64 3,.slice none 0 0,.slice none 0 0,.slice (some ⟨wx.heap.size,0,none⟩) 16 16] 25); have HB4 : Below w8.heap.size w8 (w8.alloc (.cells #[.int .i64 3,.slice none 0 0,.slice none 0 0,.slice (some ⟨wx.heap.size,0,none⟩) 16 16] 25)) := (Below.refl _ _).alloc (Nat.le_refl _) _; have HF4 : F4 w8.heap.size wx.heap.size (.slice none 0 0) (w8.alloc (.cells #[.int .i64 3,.slice none 0 0,.slice none 0 0,.slice (some ⟨wx.heap.size,0,none⟩) 16 16] 25)) := by
   refine ⟨by simp,?_,?_,?_,?_,fun o => by simp only [World.frozen?,HA4]; simp⟩ <;> (simp only [World.cell?,HA4]; rfl)
  have G0 : GO w (w8.alloc (.cells #[.int .i64 3,.slice none 0 0,.slice none 0 0,.slice (some ⟨wx.heap.size,0,none⟩) 16 16] 25)).heap.size g2 w8.heap.size wx.heap.size v (.slice none 0 0) T 0 (w8.alloc (.cells #[.int .i64 3,.slice none 0 0,.slice none 0 0,.slice (some ⟨wx.heap.size,0,none⟩) 16 16] 25)) := by
   have b8 : Below W0.heap.size W0 (w8.alloc (.cells #[.int .i64 3,.slice none 0 0,.slice none 0 0,.slice (some ⟨wx.heap.size,0,none⟩) 16 16] 25)) := HW8.out.trans (HB4.mono HW8.out.size); exact ⟨B0.trans (b8.mono HGL.out),Nat.le_refl _,B4_gb (r := none) BV (gb_below b8) (fun e => by cases e),HF4,⟨Nat.lt_of_lt_of_le (by omega) HB4.size,there_gb (r := none) ht8 (by omega) (gb_below HB4) (fun e => by cases e),fun _ => n4,fun j hj => absurd hj (by omega)⟩,by rw [HVE.out]; exact Bs_nil _ _⟩
  have HG4 : Hid (g2 < wx.heap.size ∧ wx.heap.size < w8.heap.size ∧ w8.heap.size < (w8.alloc (.cells #[.int .i64 3,.slice none 0 0,.slice none 0 0,.slice (some ⟨wx.heap.size,0,none⟩) 16 16] 25)).heap.size) := ⟨Nat.lt_of_lt_of_le HG2.out hw.size,by omega,by simp⟩; have x8 := (HW8.out.cell (p := ⟨g,off,none⟩) hg).trans k0; have x9 := ((HW8.out.trans (HB4.mono HW8.out.size)).cell (p := ⟨g,off,none⟩) hg).trans k0; have HNE0 := HG4.out; clear HX HY KN HF4 HA4 hw0; have HS8 : Hid (w8.heap.size = wx.heap.size + 1) := hs8; clear hs8; generalize wx.heap.size = gk at *; go_wp2_with fail
  generalize w8.alloc (.cells #[.int .i64 3,.slice none 0 0,.slice none 0 0,.slice (some ⟨gk,0,none⟩) 16 16] 25) = W1 at *; clear x8 x9 hr8 ht8 hb8 hw HB4; generalize hg4 : w8.heap.size = g4 at *; have HLT2 : Hid (g2 < gk ∧ gk < W1.heap.size) := ⟨by omega,by omega⟩; have HNE : Hid (g2 ≠ gk ∧ g4 ≠ gk ∧ w.heap.size ≤ gk ∧ gk < W1.heap.size) := ⟨by omega,by omega,by have := HG2B.out; omega,by omega⟩
  have KSH : Hid (∀ (i lo : Nat) (x : Value) (wx : World),Ow lo (prt i M) x wx → Calls Tryz.prog 68 #[x,.int .i64 1] wx fun e w' => ∃ y,e = .returned y ∧ Rv (cut 1 (prt i M)) y w' ∧ Below wx.heap.size wx w') := fun i lo x wx ho => by
   obtain ⟨ao,cp,e1,e2,e3⟩ := own_rv ho; subst e1; refine (shorter_any (prt i M) 1 ao cp _ wx rfl (show _ ≤ _ from Nat.le_trans (List.length_filter_le _ _) (by rw [HML.out]; have := HN.out; omega)) (own_rv ho) (fun r hr => List.length_pos_iff.2 (hM1.out r (List.mem_filter.1 hr).1))).mono fun e w' he => ?_
   obtain ⟨y,h1,h2,h3⟩ := he; exact ⟨y,h1,own_rv h2,h3⟩
  clear HNE0; go_loopw [71] (fun x wr => ∃ i : Nat,i ≤ 16 ∧ x = .int .i64 (i : Int) ∧ GO w W1.heap.size g2 g4 gk v (.slice none 0 0) T i wr) (fun x _ => ((16 : Int) - intOf x).toNat)
  case atStart => exact ⟨0,Nat.zero_le _,rfl,G0⟩
  case round =>
   obtain ⟨i,hi,rfl,hG⟩ := hrel; by_cases hlt : i < 16
   ·have d1 : decide ((i : Int) < 16) = true := decide_eq_true (by omega); have HGi : Hid (GO w W1.heap.size g2 g4 gk v (.slice none 0 0) T i wr) := hG; have HBi : Hid (Below w.heap.size w wr) := hG.b; have i16 : Hid ((i : Int) < 16) := by show _ < _; omega
    have i16' : Hid ((0 : Int) ≤ (i : Int)) := by show _ ≤ _; omega
    clear hG; generalize wr = wo at *; clear wr; go_wp2_with fail
    go_loopw [6,76] (fun o x wr => ∃ k : Nat,k ≤ n ∧ x = .int .i64 (k : Int) ∧ Ow wo.heap.size (prt i (M.take k)) o wr ∧ Below wo.heap.size wo wr) (fun _ x _ => ((n : Int) - intOf x).toNat)
    case atStart => exact ⟨0,Nat.zero_le _,rfl,World.ownsRow_nil _ _ _ _,Below.refl _ _⟩
    case round =>
     obtain ⟨k,hk,rfl,ho,hB⟩ := hrel; by_cases hkl : k < n
     ·have d2 : decide ((k : Int) < (n : Int)) = true := decide_eq_true (by omega); have d3 : (0 : Int) ≤ (k : Int) := by omega
      have d4 : (k : Int) < (n : Int) := by omega
      obtain ⟨y0,y1⟩ := HMC.out k hkl; have z0 := ((HBi.out.trans (hB.mono HBi.out.size)).cell (p := ⟨g,off + 2 * k,none⟩) HC0.out).trans y0; have z1 := ((HBi.out.trans (hB.mono HBi.out.size)).cell (p := ⟨g,off + 2 * k + 1,none⟩) HC0.out).trans y1; rw [Nat.mul_comm 2 k] at z0 z1; have hMk : k < M.length := by rw [HML.out]; exact hkl
      have hne : (M.getD k n2).1 ≠ [] := hM1.out _ (by rw [List.getD_eq_getElem?_getD,List.getElem?_eq_getElem hMk]; exact List.getElem_mem hMk)
      have HPT : Hid (prt i (M.take (k + 1)) = prt i (M.take k) ++ (if ((M.getD k n2).1.headD 0).toNat = i then [M.getD k n2] else [])) := prt_take i M k hMk; have HPL : Hid ((prt i (M.take k)).length ≤ k) := Nat.le_trans (List.length_filter_le _ _) (by rw [List.length_take]; omega)
      obtain ⟨A,eA⟩ : ∃ A,A = st (M.getD k n2).1 := ⟨_,rfl⟩; obtain ⟨Z,eZ⟩ : ∃ Z,Z = st (M.getD k n2).2 := ⟨_,rfl⟩; have hAs : 0 < A.size := by rw [eA,st_size]; exact List.length_pos_iff.2 hne
      have hAv : (A[0]'hAs).toNat = ((M.getD k n2).1.headD 0).toNat := by
       subst eA; exact st_head _ hne hAs
      have HLT : Hid (∀ W : World,Rv [M.getD k n2] (.slice (some ⟨W.heap.size,0,none⟩) 1 1) (W.alloc (.cells #[.string A,.string Z] 90))) := fun W => by rw [eA,eZ]; exact lit_rv _ W
      rw [← eA] at z0; rw [← eZ] at z1; clear y0 y1 eA eZ hne; have E5 : Hid (wrap64 ((k : Int) + 1) = ((k + 1 : Nat) : Int)) := by have := HN.out; show _ = _; unfold wrap64; omega
      have bA : Below wr.heap.size wr (wr.alloc (.cells #[.string A,.string Z] 90)) := (Below.refl _ _).alloc (Nat.le_refl _) _; have hc8 : ((M.getD k n2).1.headD 0).toNat < 256 := UInt8.toNat_lt _; generalize ((M.getD k n2).1.headD 0).toNat = cc at *; by_cases hci : cc = i
      ·have t1 : ((cc : Int) == (i : Int)) = true := beq_iff_eq.2 (by omega); have t2 : (cc == i) = true := beq_iff_eq.2 hci; have t3 : (wrap64 (cc : Int) == (i : Int)) = true := beq_iff_eq.2 (by unfold wrap64; omega)
       have HPT2 : Hid (prt i (M.take (k + 1)) = prt i (M.take k) ++ [M.getD k n2]) := by show _ = _; rw [HPT.out,if_pos hci]
       obtain ⟨v',w',hap,ho',hb',hgr⟩ := app_rv (lo := wo.heap.size) 86 (Pk.ownb (Pk.ownb ho bA) ((Below.refl _ _).alloc (Nat.le_refl _) (.cells #[.string A,.string Z] 90))) (HLT.out (wr.alloc (.cells #[.string A,.string Z] 90))) (by have := hB.size; simp; omega) (by have := HPL.out; have := HN.out; rw [List.length_singleton]; omega)
       rw [show (wr.alloc (.cells #[.string A,.string Z] 90)).heap.size = wr.heap.size + 1 by simp] at hap; have HZ : Hid (Below wo.heap.size wo w') := (hB.trans ((bA.alloc (by simp) _).mono hB.size)).trans hb'; have HO : Hid (Ow wo.heap.size (prt i (M.take (k + 1))) v' w') := by show Ow _ _ _ _; rw [HPT2.out]; exact ho'
       clear ho' hb' hgr bA hci; obtain ⟨oa,on,oc,rfl⟩ := own_slice ho; clear ho hB; go_wp2_with (at_builtin; refine wpl_app rfl rfl rfl rfl hap ?_)
       rw [E5.out]; exact ⟨⟨k + 1,hkl,rfl,HO.out,HZ.out⟩,msr_up k n hkl⟩
      ·have t1 : ((cc : Int) == (i : Int)) = false := beq_eq_false_iff_ne.2 (by omega); have t2 : (cc == i) = false := beq_eq_false_iff_ne.2 hci; have t3 : (wrap64 (cc : Int) == (i : Int)) = false := beq_eq_false_iff_ne.2 (by unfold wrap64; omega)
       have HPT2 : Hid (prt i (M.take (k + 1)) = prt i (M.take k)) := by show _ = _; rw [HPT.out,if_neg hci,List.append_nil]
       have HZ : Hid (Below wo.heap.size wo (wr.alloc (.cells #[.string A,.string Z] 90))) := hB.trans (bA.mono hB.size); have HO : Hid (Ow wo.heap.size (prt i (M.take (k + 1))) u6 (wr.alloc (.cells #[.string A,.string Z] 90))) := by show Ow _ _ _ _; rw [HPT2.out]; exact Pk.ownb ho bA
       clear bA hci; clear ho hB; go_wp2_with fail
       rw [E5.out]; exact ⟨⟨k + 1,hkl,rfl,HO.out,HZ.out⟩,msr_up k n hkl⟩
     ·have d2 : decide ((k : Int) < (n : Int)) = false := decide_eq_false (by omega); have ek : M.take k = M := List.take_of_length_le (by rw [HML.out]; omega)
      rw [ek] at ho; have HGo : GO w W1.heap.size g2 g4 gk v (.slice none 0 0) T i wr := GO_below HGi.out hB; obtain ⟨oa,on,oc,rfl⟩ := own_slice ho; have HRv := own_rv ho; have HOW : Hid (Ow wo.heap.size (prt i M) (.slice oa on oc) wr) := ho; clear ho hB d2 ek HGi HBi; go_upto_region 21 with fail
      have hw21 : GX w W1.heap.size g2 g4 gk v (.slice none 0 0) T i wo.heap.size (prt i M) (.slice oa on oc) false wr.drew := ⟨fun _ => GO_below HGo (Below.refl _ _).drew,fun _ => Pk.ownb HOW.out (Below.refl _ _).drew,nofun⟩
      clear HGo HRv HOW; refine RI.wp_region_inv (GK21n w W1.heap.size wo.heap.size T v (prt i M) g off n cap g2 g4 gk i k X oa on oc u8 u27 u28 u29 u30 u31 u32 u33 u34 u35 u36 u37 u38 u39 u40 u78 u79 u80 u81 u82 u83 u84 u85 u86 u87 u88 u89 u90 u98) (by kernel_rfl) (by kernel_rfl) ?_ ?_ ?_
      ·exact ⟨u91,u92,u93,u94,u95,u96,u97,rfl,hw21,nofun,nofun,nofun,nofun,nofun,nofun,nofun,nofun⟩
      ·skip
       intro d x wx i hI hi hm; obtain ⟨u91,u92,u93,u94,u95,u96,u97,rfl,hw,p0,p1,p2,p3,p6,z4,z5,y7⟩ := hI; have hi' : i = 0 ∨ i = 1 ∨ i = 2 ∨ i = 3 ∨ i = 4 ∨ i = 5 ∨ i = 6 ∨ i = 7 := by simp at hi; omega
       have hd := hm.2; have hf := hm.1; clear hm hi; rcases hi' with rfl | rfl | rfl | rfl | rfl | rfl | rfl | rfl
       ·refine RI.wpOp_plain rfl rfl ?_; go_simp; exact ⟨_,u92,u93,u94,u95,u96,u97,rfl,hw,fun _ => rfl,p1,p2,p3,p6,z4,z5,y7⟩
       ·have hd := hd _ rfl; simp [Region.binds] at hd
        obtain rfl := p0 (by simp [hd]); refine RI.wpOp_plain rfl rfl ?_; have h7 : d 7 = false := by cases h : d 7 with | false => rfl | true => exact absurd (y7 h).1 (by simp [hf])
        have x0 := (hw.a h7).f.2.2.2.2.1; go_simp; exact ⟨_,_,u93,u94,u95,u96,u97,rfl,hw,p0,fun _ => rfl,p2,p3,p6,z4,z5,fun h => absurd h (by simp [RI.don,h7])⟩
       ·refine RI.wpOp_plain rfl rfl ?_; go_simp; exact ⟨u91,u92,_,u94,u95,u96,u97,rfl,hw,p0,p1,fun _ => rfl,p3,p6,z4,z5,y7⟩
       ·refine RI.wpOp_plain rfl rfl ?_; go_simp; exact ⟨u91,u92,u93,_,u95,u96,u97,rfl,hw,p0,p1,p2,fun _ => rfl,p6,z4,z5,y7⟩
       ·have hd := hd _ rfl; simp [Region.binds] at hd
        obtain rfl := p3 (by simp [hd]); refine RI.wpOp_plain rfl rfl ?_; have h7 : d 7 = false := by cases h : d 7 with | false => rfl | true => exact absurd (y7 h).2.1 (by simp [hf])
        have oo := hw.o h7; go_simp; refine (KSH.out i _ _ _ oo).mono ?_; rintro e w1 ⟨x1,rfl,hs1,hb1⟩; exact ⟨u91,u92,u93,_,_,u96,u97,rfl,GX_below hw hb1,p0,p1,p2,p3,p6,fun _ _ => hs1,(fun h => (z5 h).imp fun y hy => ⟨hy.1,fun k => Nv_below (hy.2 k) hb1⟩),fun h => absurd h (by simp [RI.don,h7])⟩
       ·have hd := hd _ rfl; simp [Region.binds] at hd
        refine RI.wpOp_plain rfl rfl ?_; have h7 : d 7 = false := by cases h : d 7 with | false => rfl | true => exact absurd (y7 h).2.2 (by simp [hf])
        have rv := z4 (by simp [hd]) h7; go_simp; refine (KG.out i _ _ hlt rv).mono ?_; rintro e w1 ⟨y,rfl,hy,hb1⟩; exact ⟨u91,u92,u93,u94,u95,_,u97,rfl,GX_below hw hb1,p0,p1,p2,p3,p6,(fun h k => Rv_below (z4 h k) hb1),fun _ => ⟨y,rfl,fun _ => Nv_mono hy (fun k h _ => Nat.le_trans (hw.a h7).s h)⟩,fun h => absurd h (by simp [RI.don,h7])⟩
       ·have hd := hd _ rfl; simp [Region.binds] at hd
        obtain rfl := p0 (by simp [hd]); obtain rfl := p1 (by simp [hd]); obtain rfl := p2 (by simp [hd]); obtain rfl := p3 (by simp [hd]); refine RI.wpOp_plain rfl rfl ?_; have e16 := i16.out; have e16' := i16'.out; go_simp; exact ⟨_,_,_,_,u95,u96,_,rfl,hw,p0,p1,p2,p3,fun _ => rfl,z4,z5,y7⟩
       ·have hd := hd _ rfl; simp [Region.binds] at hd
        obtain rfl := p0 (by simp [hd]); obtain rfl := p1 (by simp [hd]); obtain rfl := p2 (by simp [hd]); obtain rfl := p3 (by simp [hd]); obtain rfl := p6 (by simp [hd]); refine RI.wpOp_plain rfl rfl ?_; obtain ⟨y,rfl,hy⟩ := z5 (by simp [hd]); have hyn := hy hf; obtain ⟨yk,b1,m1,e1,b2,m2,e2,b3,m3,e3,rfl⟩ := Nv_form hyn; refine wp_st4o rfl rfl rfl (there_sub (hw.a hf).k.t hlt) ?_; intro w1 gb1 s0 s1 s2 s3 so sf; have GN := GO_step (hw.a hf) hlt HNE.out.1 HNE.out.2.1 HNE.out.2.2.1 HNE.out.2.2.2 hyn gb1 s0 s1 s2 s3 so sf; simp only [Act.put]; exact ⟨_,_,_,_,u95,_,_,rfl,⟨nofun,nofun,fun _ => GN⟩,p0,p1,p2,p3,p6,(fun _ h => nomatch h),fun _ => ⟨_,rfl,fun h => nomatch h⟩,fun _ => ⟨by simp [RI.don,hd],by simp [RI.don,hd],by simp [RI.don,hd]⟩⟩
      ·skip
       intro d x wx hI hd; obtain ⟨u91,u92,u93,u94,u95,u96,u97,rfl,hw,p0,p1,p2,p3,p6,z4,z5,y7⟩ := hI; have GN := hw.e (hd 7 (by decide)); have HGN : Hid (GO w W1.heap.size g2 g4 gk v (.slice none 0 0) T (i + 1) wx) := GN; clear GN hw p0 p1 p2 p3 p6 z4 z5 y7; go_wp2_with fail
       exact ⟨⟨i + 1,hlt,by rw [Int.natCast_succ],HGN.out⟩,msr_up' i 16 hlt⟩
   ·have d1 : decide ((i : Int) < 16) = false := decide_eq_false (by omega); have ei : i = 16 := by omega
    subst ei; have HGE : GO w W1.heap.size g2 g4 gk v (.slice none 0 0) T 16 wr := hG; obtain ⟨_,f0,f1,f2,f3,_⟩ := hG.f; have hv2 := hG.v; have HNV : Hid (Nv (gk ≤ ·) wr (.mk 3 [] v ((List.range 16).map T)) (.int .i64 3,.slice none 0 0,(.slice none 0 0),.slice (some ⟨gk,0,none⟩) 16 16)) := GO_end hG (fun k hk => by have := HLT2.out; omega) (Nat.le_refl _)
    clear hG d1; go_wp2_with (refine wpList_st4 rfl rfl rfl rfl hv2 ?_; intro w9 gb9 s0 s1 s2 s3)
    have N9 : Nv (w.heap.size ≤ ·) w9 (.mk 3 [] v ((List.range 16).map T)) (.int .i64 3,.slice none 0 0,(.slice none 0 0),.slice (some ⟨gk,0,none⟩) 16 16) := Nv_mono (Nv_gb HNV.out gb9 (fun k hk e => by injection e with e; have := HLT2.out; omega)) (fun k hk _ => Nat.le_trans HNE.out.2.2.1 hk)
    have B9 : Below w.heap.size w w9 := HGE.b.grown gb9 HGE.b.size (fun k e => by injection e with e; have := HG2B.out; omega)
    exact bodyPost_ret (v := .agg #[.int .i64 3,.slice none 0 0,(.slice none 0 0),.slice (some ⟨gk,0,none⟩) 16 16]) (resN _ _ _ g2 2 _ _ _ _ rfl rfl s0 s1 s2 s3) rfl ⟨(.int .i64 3,.slice none 0 0,(.slice none 0 0),.slice (some ⟨gk,0,none⟩) 16 16),rfl,N9,B9⟩
inductive GV10 (w : World) (B : Nat) (T : Nat → Nd) (v : By) (g off n m cap g2 g4 gk : Nat) (X V : ByteArray) (v27 v28 v29 v30 v31 v32 v33 v34 v35 v36 v37 v38 v39 v40 : Value) (d : Nat → Bool) (x : Act) (wx : World) : Prop where
 | mk (u0 u63 u64 u65 u66 u67 u68 u69 u70 : Value) (hx : x = { tmps := #[u0,undef,.pointer (some ⟨g2,0,none⟩),.int .i64 0,.pointer (some ⟨g4,0,none⟩),undef,undef,undef,undef,.slice (some ⟨g,off,none⟩) n cap,.int .i64 (n : Int),.bool false,undef,.slice (some ⟨g,off,none⟩) n cap,.int .i64 (n : Int),.bool false,undef,undef,undef,undef,undef,undef,undef,undef,undef,undef,undef,v27,v28,v29,v30,v31,v32,v33,v34,v35,v36,v37,v38,v39,v40,.int .i64 0,.bool false,undef,undef,undef,undef,undef,undef,undef,undef,undef,undef,undef,undef,undef,.slice (some ⟨gk,0,none⟩) 16 16,.agg #[.int .i64 3,.slice none 0 0,.slice none 0 0,.slice (some ⟨gk,0,none⟩) 16 16],.slice (some ⟨g,off,none⟩) n cap,.pointer (some ⟨g,off,none⟩),.pointer (some ⟨g,off,none⟩),.string X,.bool true,u63,u64,u65,u66,u67,u68,u69,u70,undef,undef,undef,undef,undef,undef,undef,undef,undef,undef,undef,undef,undef,undef,undef,undef,undef,undef,undef,undef,undef,undef,undef,undef,undef,undef,undef,undef,undef],defers := [] }) (hw : GV w B g2 g4 gk v T (d 8) (d 9) (.slice (some ⟨g,off,none⟩) n cap) u0 wx) (p0 : d 0 = true → u63 = .slice (some ⟨g,off,none⟩) n cap) (p1 : d 1 = true → u64 = .pointer (some ⟨g,off,none⟩)) (p2 : d 2 = true → u65 = .pointer (some ⟨g,off + 1,none⟩)) (p3 : d 3 = true → u66 = .string V) (p5 : d 5 = true → u68 = .slice (some ⟨g,off,none⟩) n cap) (p6 : d 6 = true → u69 = .slice (some ⟨g,off + 2,none⟩) m (cap - 1)) (p7 : d 7 = true → u70 = .pointer (some ⟨g4,2,none⟩)) (p9 : d 9 = true → u0 = .slice (some ⟨g,off + 2,none⟩) m (cap - 1)) (z4 : d 4 = true → ∃ a c,u67 = .slice a v.length c ∧ (d 8 = false → Bs (B ≤ ·) v (.slice a v.length c) wx)) (y8 : d 8 = true → d 4 = true) (y9 : d 9 = true → d 0 = true ∧ d 5 = true) : GV10 w B T v g off n m cap g2 g4 gk X V v27 v28 v29 v30 v31 v32 v33 v34 v35 v36 v37 v38 v39 v40 d x wx
inductive GK21v (w : World) (B lo : Nat) (T : Nat → Nd) (v : By) (pt : Rt) (g off n cap g2 g4 gk i k : Nat) (X : ByteArray) (oa : Option Addr) (on oc : Nat) (m vc vl : Nat) (va : Option Addr) (v8 v27 v28 v29 v30 v31 v32 v33 v34 v35 v36 v37 v38 v39 v40 v63 v64 v65 v66 v67 v68 v69 v70 v78 v79 v80 v81 v82 v83 v84 v85 v86 v87 v88 v89 v90 v98 : Value) (d : Nat → Bool) (x : Act) (wx : World) : Prop where
 | mk (u91 u92 u93 u94 u95 u96 u97 : Value) (hx : x = { tmps := #[.slice (some ⟨g,off + 2,none⟩) m (cap - 1),undef,.pointer (some ⟨g2,0,none⟩),.int .i64 0,.pointer (some ⟨g4,0,none⟩),.int .i64 (i : Int),.slice oa on oc,undef,v8,.slice (some ⟨g,off,none⟩) n cap,.int .i64 (n : Int),.bool false,undef,.slice (some ⟨g,off,none⟩) n cap,.int .i64 (n : Int),.bool false,undef,undef,undef,undef,undef,undef,undef,undef,undef,undef,undef,v27,v28,v29,v30,v31,v32,v33,v34,v35,v36,v37,v38,v39,v40,.int .i64 0,.bool false,undef,undef,undef,undef,undef,undef,undef,undef,undef,undef,undef,undef,undef,.slice (some ⟨gk,0,none⟩) 16 16,.agg #[.int .i64 3,.slice none 0 0,.slice none 0 0,.slice (some ⟨gk,0,none⟩) 16 16],.slice (some ⟨g,off,none⟩) n cap,.pointer (some ⟨g,off,none⟩),.pointer (some ⟨g,off,none⟩),.string X,.bool true,v63,v64,v65,v66,v67,v68,v69,v70,.int .i64 (i : Int),.bool true,.int .i64 (i : Int),.slice (some ⟨g,off + 2,none⟩) m (cap - 1),.int .i64 (m : Int),.int .i64 (k : Int),.bool false,v78,v79,v80,v81,v82,v83,v84,v85,v86,v87,v88,v89,v90,u91,u92,u93,u94,u95,u96,u97,v98,undef],defers := [] }) (hw : GX w B g2 g4 gk v (.slice va vl vc) T i lo pt (.slice oa on oc) (d 7) wx) (p0 : d 0 = true → u91 = .pointer (some ⟨g4,3,none⟩)) (p1 : d 1 = true → u92 = .slice (some ⟨gk,0,none⟩) 16 16) (p2 : d 2 = true → u93 = .int .i64 (i : Int)) (p3 : d 3 = true → u94 = .slice oa on oc) (p6 : d 6 = true → u97 = .pointer (some ⟨gk,i * 4,none⟩)) (z4 : d 4 = true → d 7 = false → Rv (cut 1 pt) u95 wx) (z5 : d 5 = true → ∃ y,u96 = v4 y ∧ (d 7 = false → Nv (B ≤ ·) wx (T i) y)) (y7 : d 7 = true → d 1 = true ∧ d 4 = true ∧ d 5 = true) : GK21v w B lo T v pt g off n cap g2 g4 gk i k X oa on oc m vc vl va v8 v27 v28 v29 v30 v31 v32 v33 v34 v35 v36 v37 v38 v39 v40 v63 v64 v65 v66 v67 v68 v69 v70 v78 v79 v80 v81 v82 v83 v84 v85 v86 v87 v88 v89 v90 v98 d x wx
theorem grown_fork_v (l M : Rt) (p q v : By) (g off cap n m : Nat) (w : World) (hn : 2 ≤ n) (hm : m + 1 = n) (hn2 : n ≤ 1048576) (hln : l.length = n) (hcap : n ≤ cap) (hg0 : g < w.heap.size) (hp : (l.getD 0 n2).1 = p) (hq : (l.getD m n2).1 = q) (hp0 : p = []) (hv : (l.getD 0 n2).2 = v) (hM : M = l.tail) (hM1 : Hid (∀ r ∈ M,r.1 ≠ []))
  (hcl : Hid (∀ j,j < l.length → w.cell? ⟨g,off + 2 * j,none⟩ = some (.string (st (l.getD j n2).1)) ∧ w.cell? ⟨g,off + 2 * j + 1,none⟩ = some (.string (st (l.getD j n2).2))))
  (T : Nat → Nd) (KG : Hid (∀ (i : Nat) (x : Value) (wx : World),i < 16 → Rv (cut 1 (prt i M)) x wx → Calls Tryz.prog 43 #[x] wx fun e w' => ∃ y : V4,e = .returned (v4 y) ∧ Nv (wx.heap.size ≤ ·) w' (T i) y ∧ Below wx.heap.size wx w'))
  (hpl : p.length ≤ 4194304) (hql : q.length ≤ 4194304) (KN : Hid (∀ (a b : Value) (wx : World),SlC p a wx → SlC q b wx → Calls Tryz.prog 67 #[a,b] wx fun e w' => e = .returned (.int .i64 0) ∧ Below wx.heap.size wx w')) :
  Calls Tryz.prog 43 #[.slice (some ⟨g,off,none⟩) n cap] w fun e w' => ∃ u : V4,e = .returned (v4 u) ∧ Nv (w.heap.size ≤ ·) w' (.mk 3 [] v ((List.range 16).map T)) u ∧ Below w.heap.size w w' := by
 have h0 : w.cell? ⟨g,off,none⟩ = some (.string (st p)) := by have := (hcl.out 0 (by omega)).1; rw [hp] at this; exact this
 have h1 : w.cell? ⟨g,off + m * 2,none⟩ = some (.string (st q)) := by have := (hcl.out m (by omega)).1; rw [hq,Nat.mul_comm] at this; exact this
 have h0v : w.cell? ⟨g,off + 1,none⟩ = some (.string (st v)) := by have := (hcl.out 0 (by omega)).2; rw [hv] at this; exact this
 have B0 : Below w.heap.size w (w.alloc (.cells #[.int .i64 0,.slice none 0 0,.slice none 0 0,.slice none 0 0] 25)) := (Below.refl _ _).alloc (Nat.le_refl _) _; have k0 := (B0.cell (p := ⟨g,off,none⟩) hg0).trans h0; have l0 := (B0.cell (p := ⟨g,off + m * 2,none⟩) hg0).trans h1; have hg : g < (w.alloc (.cells #[.int .i64 0,.slice none 0 0,.slice none 0 0,.slice none 0 0] 25)).heap.size := Nat.lt_of_lt_of_le hg0 B0.size; have HX : Hid (∀ W : World,∃ c W',(convert 9 22 (.string (st p))).run Tryz.prog W = .ok (.slice (some ⟨W.heap.size,0,none⟩) p.length c) W' ∧ SlC p (.slice (some ⟨W.heap.size,0,none⟩) p.length c) W' ∧ W'.heap.size = W.heap.size + 1 ∧ Below W.heap.size W W') := st_slc p hpl; have HY : Hid (∀ W : World,∃ c W',(convert 9 22 (.string (st q))).run Tryz.prog W = .ok (.slice (some ⟨W.heap.size,0,none⟩) q.length c) W' ∧ SlC q (.slice (some ⟨W.heap.size,0,none⟩) q.length c) W' ∧ W'.heap.size = W.heap.size + 1 ∧ Below W.heap.size W W') := st_slc q hql; have HV : Hid (∀ W : World,∃ c W',(convert 9 22 (.string (st v))).run Tryz.prog W = .ok (.slice (some ⟨W.heap.size,0,none⟩) v.length c) W' ∧ Pk.Sl v (.slice (some ⟨W.heap.size,0,none⟩) v.length c) W' ∧ W'.heap.size = W.heap.size + 1 ∧ Below W.heap.size W W') := st_sl v; have BV := B4_new w; have HGL : Hid (w.heap.size ≤ (w.alloc (.cells #[.int .i64 0,.slice none 0 0,.slice none 0 0,.slice none 0 0] 25)).heap.size) := B0.size; have HG2 : Hid (w.heap.size < (w.alloc (.cells #[.int .i64 0,.slice none 0 0,.slice none 0 0,.slice none 0 0] 25)).heap.size) := by show _ < _; simp
 have e0 : ((n : Int) == 0) = false := beq_eq_false_iff_ne.2 (by omega); have e1 : ((n : Int) == 1) = false := beq_eq_false_iff_ne.2 (by omega); have e2 : (n == 0) = false := beq_eq_false_iff_ne.2 (by omega); have e3 : (n == 1) = false := beq_eq_false_iff_ne.2 (by omega); have i0 : (0 : Int) < (n : Int) := by omega
 have i1 : IntKind.i64.wrap ((n : Int) - 1) = (m : Int) := by rw [IntKind.wrap_i64]; omega
 have i2 : (0 : Int) ≤ (m : Int) := by omega
 have i3 : (m : Int) < (n : Int) := by omega
 have i4 : 0 < n := by omega
 have i5 : m < n := by omega
 have HC0 : Hid (g < w.heap.size) := hg0; have HN : Hid (l.length = n ∧ 2 ≤ n ∧ n ≤ 1048576 ∧ m + 1 = n) := ⟨hln,hn,hn2,hm⟩; have HM : Hid (M = l.tail) := hM; have HXI : Hid ((st p).toList.isEmpty = true) := by show _ = _; rw [st_list]; rw [hp0]; rfl
 have HML : Hid (M.length = m) := by show _ = _; rw [hM,List.length_tail]; omega
 have HMC : Hid (∀ j,j < m → w.cell? ⟨g,off + 2 + 2 * j,none⟩ = some (.string (st (M.getD j n2).1)) ∧ w.cell? ⟨g,off + 2 + 2 * j + 1,none⟩ = some (.string (st (M.getD j n2).2))) := fun j hj => by
  have hx := hcl.out (j + 1) (by omega); have ej : M.getD j n2 = l.getD (j + 1) n2 := by rw [hM]; cases l with | nil => simp at hln; omega | cons a r => rfl
  rw [ej,show off + 2 + 2 * j = off + 2 * (j + 1) by omega]; exact hx
 have HS1 : Hid ((1 : Int) ≤ (n : Int)) := by show _ ≤ _; omega
 have HS2 : Hid ((n : Int) ≤ (cap : Int)) := by show _ ≤ _; omega
 have HS3 : Hid (n - 1 = m) := by show _ = _; omega
 have HS4 : Hid (¬ cap = 1) := by show ¬ _; omega
 clear hp hq hM hn hm hn2 hln hp0 hv; generalize st p = X at *; generalize st q = Y at *; clear h1 hg0; go_enter Tryz.func43,Tryz.ntmps43
 go_upto_region 5 with fail
 generalize w.alloc (.cells #[.int .i64 0,.slice none 0 0,.slice none 0 0,.slice none 0 0] 25) = W0 at *; obtain ⟨g2,eg2⟩ : ∃ g2,g2 = w.heap.size := ⟨_,rfl⟩; have HG2B : Hid (w.heap.size ≤ g2) := by show _ ≤ _; omega
 rw [← eg2] at BV HG2 ⊢; have E2 : Hid (g2 = w.heap.size) := eg2; clear eg2; have hw0 : Below W0.heap.size W0 W0.drew := (Below.refl _ _).drew; refine RI.wp_region_inv (GC5 W0 p q g off n m cap g2 0 X Y) (by kernel_rfl) (by kernel_rfl) ?_ ?_ ?_
 ·exact ⟨undef,undef,undef,undef,undef,undef,undef,undef,undef,undef,undef,undef,undef,undef,undef,rfl,hw0,nofun,nofun,nofun,nofun,nofun,nofun,nofun,nofun,nofun,nofun,nofun,nofun,nofun,nofun,nofun⟩
 ·skip
  intro d x wx i hI hi hm; obtain ⟨u3,u27,u28,u29,u30,u31,u32,u33,u34,u35,u36,u37,u38,u39,u40,rfl,hw,p0,p1,p2,p3,p5,p6,p7,p8,p9,p10,p11,p13,p14,z4,z12⟩ := hI; have hi' : i = 0 ∨ i = 1 ∨ i = 2 ∨ i = 3 ∨ i = 4 ∨ i = 5 ∨ i = 6 ∨ i = 7 ∨ i = 8 ∨ i = 9 ∨ i = 10 ∨ i = 11 ∨ i = 12 ∨ i = 13 ∨ i = 14 := by simp at hi; omega
  have hd := hm.2; have hf := hm.1; clear hm hi; rcases hi' with rfl | rfl | rfl | rfl | rfl | rfl | rfl | rfl | rfl | rfl | rfl | rfl | rfl | rfl | rfl
  ·refine RI.wpOp_plain rfl rfl ?_; go_simp; exact ⟨u3,_,u28,u29,u30,u31,u32,u33,u34,u35,u36,u37,u38,u39,u40,rfl,hw,fun _ => rfl,p1,p2,p3,p5,p6,p7,p8,p9,p10,p11,p13,p14,z4,z12⟩
  ·have hd := hd _ rfl; simp [Region.binds] at hd
   obtain rfl := p0 (by simp [hd]); refine RI.wpOp_plain rfl rfl ?_; go_simp; exact ⟨u3,_,_,u29,u30,u31,u32,u33,u34,u35,u36,u37,u38,u39,u40,rfl,hw,p0,fun _ => rfl,p2,p3,p5,p6,p7,p8,p9,p10,p11,p13,p14,z4,z12⟩
  ·have hd := hd _ rfl; simp [Region.binds] at hd
   obtain rfl := p1 (by simp [hd]); refine RI.wpOp_plain rfl rfl ?_; go_simp; exact ⟨u3,u27,_,_,u30,u31,u32,u33,u34,u35,u36,u37,u38,u39,u40,rfl,hw,p0,p1,fun _ => rfl,p3,p5,p6,p7,p8,p9,p10,p11,p13,p14,z4,z12⟩
  ·have hd := hd _ rfl; simp [Region.binds] at hd
   obtain rfl := p2 (by simp [hd]); refine RI.wpOp_plain rfl rfl ?_; have x0 := (hw.cell (p := ⟨g,off,none⟩) hg).trans k0; go_simp; exact ⟨u3,u27,u28,_,_,u31,u32,u33,u34,u35,u36,u37,u38,u39,u40,rfl,hw,p0,p1,p2,fun _ => rfl,p5,p6,p7,p8,p9,p10,p11,p13,p14,z4,z12⟩
  ·have hd := hd _ rfl; simp [Region.binds] at hd
   obtain rfl := p3 (by simp [hd]); refine RI.wpOp_plain rfl rfl ?_; obtain ⟨cq,w1,hcv,hs1,hsz,hb1⟩ := HX.out wx; go_simp; exact ⟨u3,u27,u28,u29,_,_,u32,u33,u34,u35,u36,u37,u38,u39,u40,rfl,hw.trans (hb1.mono hw.size),p0,p1,p2,p3,p5,p6,p7,p8,p9,p10,p11,p13,p14,fun _ => hs1,(fun h => SlC_below (z12 h) hb1)⟩
  ·refine RI.wpOp_plain rfl rfl ?_; go_simp; exact ⟨u3,u27,u28,u29,u30,u31,_,u33,u34,u35,u36,u37,u38,u39,u40,rfl,hw,p0,p1,p2,p3,fun _ => rfl,p6,p7,p8,p9,p10,p11,p13,p14,z4,z12⟩
  ·refine RI.wpOp_plain rfl rfl ?_; go_simp; exact ⟨u3,u27,u28,u29,u30,u31,u32,_,u34,u35,u36,u37,u38,u39,u40,rfl,hw,p0,p1,p2,p3,p5,fun _ => rfl,p7,p8,p9,p10,p11,p13,p14,z4,z12⟩
  ·have hd := hd _ rfl; simp [Region.binds] at hd
   obtain rfl := p6 (by simp [hd]); refine RI.wpOp_plain rfl rfl ?_; go_simp; exact ⟨u3,u27,u28,u29,u30,u31,u32,_,_,u35,u36,u37,u38,u39,u40,rfl,hw,p0,p1,p2,p3,p5,p6,fun _ => rfl,p8,p9,p10,p11,p13,p14,z4,z12⟩
  ·have hd := hd _ rfl; simp [Region.binds] at hd
   obtain rfl := p7 (by simp [hd]); refine RI.wpOp_plain rfl rfl ?_; go_simp; exact ⟨u3,u27,u28,u29,u30,u31,u32,u33,_,_,u36,u37,u38,u39,u40,rfl,hw,p0,p1,p2,p3,p5,p6,p7,fun _ => rfl,p9,p10,p11,p13,p14,z4,z12⟩
  ·have hd := hd _ rfl; simp [Region.binds] at hd
   obtain rfl := p5 (by simp [hd]); obtain rfl := p8 (by simp [hd]); refine RI.wpOp_plain rfl rfl ?_; go_simp; exact ⟨u3,u27,u28,u29,u30,u31,_,u33,u34,_,_,u37,u38,u39,u40,rfl,hw,p0,p1,p2,p3,p5,p6,p7,p8,fun _ => rfl,p10,p11,p13,p14,z4,z12⟩
  ·have hd := hd _ rfl; simp [Region.binds] at hd
   obtain rfl := p9 (by simp [hd]); refine RI.wpOp_plain rfl rfl ?_; go_simp; exact ⟨u3,u27,u28,u29,u30,u31,u32,u33,u34,u35,_,_,u38,u39,u40,rfl,hw,p0,p1,p2,p3,p5,p6,p7,p8,p9,fun _ => rfl,p11,p13,p14,z4,z12⟩
  ·have hd := hd _ rfl; simp [Region.binds] at hd
   obtain rfl := p10 (by simp [hd]); refine RI.wpOp_plain rfl rfl ?_; have x0 := (hw.cell (p := ⟨g,off + m * 2,none⟩) hg).trans l0; go_simp; exact ⟨u3,u27,u28,u29,u30,u31,u32,u33,u34,u35,u36,_,_,u39,u40,rfl,hw,p0,p1,p2,p3,p5,p6,p7,p8,p9,p10,fun _ => rfl,p13,p14,z4,z12⟩
  ·have hd := hd _ rfl; simp [Region.binds] at hd
   obtain rfl := p11 (by simp [hd]); refine RI.wpOp_plain rfl rfl ?_; obtain ⟨cq,w1,hcv,hs1,hsz,hb1⟩ := HY.out wx; go_simp; exact ⟨u3,u27,u28,u29,u30,u31,u32,u33,u34,u35,u36,u37,_,_,u40,rfl,hw.trans (hb1.mono hw.size),p0,p1,p2,p3,p5,p6,p7,p8,p9,p10,p11,p13,p14,(fun h => SlC_below (z4 h) hb1),fun _ => hs1⟩
  ·have hd := hd _ rfl; simp [Region.binds] at hd
   refine RI.wpOp_plain rfl rfl ?_; go_simp; refine (KN.out _ _ _ (z4 (by simp [hd])) (z12 (by simp [hd]))).mono ?_; rintro e w1 ⟨rfl,hb1⟩; exact ⟨u3,u27,u28,u29,u30,u31,u32,u33,u34,u35,u36,u37,u38,u39,_,rfl,hw.trans (hb1.mono hw.size),p0,p1,p2,p3,p5,p6,p7,p8,p9,p10,p11,fun _ => rfl,p14,(fun h => SlC_below (z4 h) hb1),(fun h => SlC_below (z12 h) hb1)⟩
  ·have hd := hd _ rfl; simp [Region.binds] at hd
   obtain rfl := p0 (by simp [hd]); obtain rfl := p1 (by simp [hd]); obtain rfl := p2 (by simp [hd]); obtain rfl := p3 (by simp [hd]); obtain rfl := p5 (by simp [hd]); obtain rfl := p6 (by simp [hd]); obtain rfl := p7 (by simp [hd]); obtain rfl := p8 (by simp [hd]); obtain rfl := p9 (by simp [hd]); obtain rfl := p10 (by simp [hd]); obtain rfl := p11 (by simp [hd]); obtain rfl := p13 (by simp [hd]); refine RI.wpOp_plain rfl rfl ?_; go_simp; exact ⟨_,_,_,_,_,u31,_,_,_,_,_,_,_,u39,_,rfl,hw,p0,p1,p2,p3,p5,p6,p7,p8,p9,p10,p11,p13,fun _ => rfl,z4,z12⟩
 ·skip
  intro d x wx hI hd; obtain ⟨u3,u27,u28,u29,u30,u31,u32,u33,u34,u35,u36,u37,u38,u39,u40,rfl,hw,p0,p1,p2,p3,p5,p6,p7,p8,p9,p10,p11,p13,p14,z4,z12⟩ := hI; obtain rfl := p14 (hd 14 (by decide)); clear p0 p1 p2 p3 p5 p6 p7 p8 p9 p10 p11 p13 z4 z12; obtain ⟨w8,hr8,hs8,ht8,hb8⟩ := made16 wx; have hXi : X.toList.isEmpty = true := HXI.out; have HW8 : Hid (Below W0.heap.size W0 w8) := hw.trans (hb8.mono hw.size); have HA4 := heap_alloc_new w8 (.cells #[.int .i64 3,.slice none 0 0,.slice none 0 0,.slice (some ⟨wx.heap.size,0,none⟩) 16 16] 25); have HB4 : Below w8.heap.size w8 (w8.alloc (.cells #[.int .i64 3,.slice none 0 0,.slice none 0 0,.slice (some ⟨wx.heap.size,0,none⟩) 16 16] 25)) := (Below.refl _ _).alloc (Nat.le_refl _) _; have HF4 : F4 w8.heap.size wx.heap.size (.slice none 0 0) (w8.alloc (.cells #[.int .i64 3,.slice none 0 0,.slice none 0 0,.slice (some ⟨wx.heap.size,0,none⟩) 16 16] 25)) := by
   refine ⟨by simp,?_,?_,?_,?_,fun o => by simp only [World.frozen?,HA4]; simp⟩ <;> (simp only [World.cell?,HA4]; rfl)
  have G0 : GO w (w8.alloc (.cells #[.int .i64 3,.slice none 0 0,.slice none 0 0,.slice (some ⟨wx.heap.size,0,none⟩) 16 16] 25)).heap.size g2 w8.heap.size wx.heap.size [] (.slice none 0 0) T 0 (w8.alloc (.cells #[.int .i64 3,.slice none 0 0,.slice none 0 0,.slice (some ⟨wx.heap.size,0,none⟩) 16 16] 25)) := by
   have b8 : Below W0.heap.size W0 (w8.alloc (.cells #[.int .i64 3,.slice none 0 0,.slice none 0 0,.slice (some ⟨wx.heap.size,0,none⟩) 16 16] 25)) := HW8.out.trans (HB4.mono HW8.out.size); exact ⟨B0.trans (b8.mono HGL.out),Nat.le_refl _,B4_gb (r := none) BV (gb_below b8) (fun e => by cases e),HF4,⟨Nat.lt_of_lt_of_le (by omega) HB4.size,there_gb (r := none) ht8 (by omega) (gb_below HB4) (fun e => by cases e),fun _ => n4,fun j hj => absurd hj (by omega)⟩,Bs_nil _ _⟩
  have HG4 : Hid (g2 < wx.heap.size ∧ wx.heap.size < w8.heap.size ∧ w8.heap.size < (w8.alloc (.cells #[.int .i64 3,.slice none 0 0,.slice none 0 0,.slice (some ⟨wx.heap.size,0,none⟩) 16 16] 25)).heap.size) := ⟨Nat.lt_of_lt_of_le HG2.out hw.size,by omega,by simp⟩; have x8 := (HW8.out.cell (p := ⟨g,off,none⟩) hg).trans k0; have x9 := ((HW8.out.trans (HB4.mono HW8.out.size)).cell (p := ⟨g,off,none⟩) hg).trans k0; have HNE0 := HG4.out; clear HX HY KN HF4 HA4 hw0; have HS8 : Hid (w8.heap.size = wx.heap.size + 1) := hs8; clear hs8; generalize wx.heap.size = gk at *; go_wp2_with fail
  generalize w8.alloc (.cells #[.int .i64 3,.slice none 0 0,.slice none 0 0,.slice (some ⟨gk,0,none⟩) 16 16] 25) = W1 at *; clear x8 x9 hr8 ht8 hb8 hw HB4; generalize hg4 : w8.heap.size = g4 at *; have HG4N : Hid (g2 ≠ g4 ∧ gk ≠ g4 ∧ g4 < W1.heap.size) := ⟨by omega,by omega,by omega⟩; have HG4G : Hid (w.heap.size ≤ g4) := by have := HG2B.out; show _ ≤ _; omega
  have hw10 : GV w W1.heap.size g2 g4 gk v T false false (.slice (some ⟨g,off,none⟩) n cap) (.slice (some ⟨g,off,none⟩) n cap) W1.drew := ⟨fun _ => GO_below G0 (Below.refl _ _).drew,G0.b.drew,nofun,fun _ => rfl⟩
  generalize st v = V at *; have HVX := HV; refine RI.wp_region_inv (GV10 w W1.heap.size T v g off n m cap g2 g4 gk X V u27 u28 u29 u30 u31 u32 u33 u34 u35 u36 u37 u38 u39 u40) (by kernel_rfl) (by kernel_rfl) ?_ ?_ ?_
  ·exact ⟨.slice (some ⟨g,off,none⟩) n cap,undef,undef,undef,undef,undef,undef,undef,undef,rfl,hw10,nofun,nofun,nofun,nofun,nofun,nofun,nofun,nofun,nofun,nofun,nofun⟩
  ·skip
   intro d x wx i hI hi hm; obtain ⟨u0,u63,u64,u65,u66,u67,u68,u69,u70,rfl,hw,p0,p1,p2,p3,p5,p6,p7,p9,z4,y8,y9⟩ := hI; have hi' : i = 0 ∨ i = 1 ∨ i = 2 ∨ i = 3 ∨ i = 4 ∨ i = 5 ∨ i = 6 ∨ i = 7 ∨ i = 8 ∨ i = 9 := by simp at hi; omega
   have hd := hm.2; have hf := hm.1; clear hm hi; rcases hi' with rfl | rfl | rfl | rfl | rfl | rfl | rfl | rfl | rfl | rfl
   ·refine RI.wpOp_plain rfl rfl ?_; have h9 : d 9 = false := by cases h : d 9 with | false => rfl | true => exact absurd (y9 h).1 (by simp [hf])
    obtain rfl := hw.m h9; go_simp; exact ⟨_,_,u64,u65,u66,u67,u68,u69,u70,rfl,hw,fun _ => rfl,p1,p2,p3,p5,p6,p7,(fun h => absurd h (by simp [RI.don,h9])),z4,y8,(fun h => absurd h (by simp [RI.don,h9]))⟩
   ·have hd := hd _ rfl; simp [Region.binds] at hd
    obtain rfl := p0 (by simp [hd]); refine RI.wpOp_plain rfl rfl ?_; go_simp; exact ⟨u0,_,_,u65,u66,u67,u68,u69,u70,rfl,hw,p0,fun _ => rfl,p2,p3,p5,p6,p7,p9,z4,y8,y9⟩
   ·have hd := hd _ rfl; simp [Region.binds] at hd
    obtain rfl := p1 (by simp [hd]); refine RI.wpOp_plain rfl rfl ?_; go_simp; exact ⟨u0,u63,_,_,u66,u67,u68,u69,u70,rfl,hw,p0,p1,fun _ => rfl,p3,p5,p6,p7,p9,z4,y8,y9⟩
   ·have hd := hd _ rfl; simp [Region.binds] at hd
    obtain rfl := p2 (by simp [hd]); refine RI.wpOp_plain rfl rfl ?_; have x0 := (hw.b.cell (p := ⟨g,off + 1,none⟩) HC0.out).trans h0v; go_simp; exact ⟨u0,u63,u64,_,_,u67,u68,u69,u70,rfl,hw,p0,p1,p2,fun _ => rfl,p5,p6,p7,p9,z4,y8,y9⟩
   ·have hd := hd _ rfl; simp [Region.binds] at hd
    obtain rfl := p3 (by simp [hd]); refine RI.wpOp_plain rfl rfl ?_; have h8 : d 8 = false := by cases h : d 8 with | false => rfl | true => exact absurd (y8 h) (by simp [hf])
    obtain ⟨cq,w1,hcv,hs1,hsz,hb1⟩ := HVX.out wx; go_simp; exact ⟨u0,u63,u64,u65,_,_,u68,u69,u70,rfl,⟨fun _ => GO_below (hw.a h8) hb1,hw.b.trans (hb1.mono hw.b.size),(fun h => absurd h (by simp [RI.don,h8])),hw.m⟩,p0,p1,p2,p3,p5,p6,p7,p9,fun _ => ⟨_,_,rfl,fun _ => sl_bs (S := (W1.heap.size ≤ ·)) (hw.a h8).s hs1⟩,(fun h => absurd h (by simp [RI.don,h8])),y9⟩
   ·refine RI.wpOp_plain rfl rfl ?_; have h9 : d 9 = false := by cases h : d 9 with | false => rfl | true => exact absurd (y9 h).2 (by simp [hf])
    obtain rfl := hw.m h9; go_simp; exact ⟨_,u63,u64,u65,u66,u67,_,u69,u70,rfl,hw,p0,p1,p2,p3,fun _ => rfl,p6,p7,(fun h => absurd h (by simp [RI.don,h9])),z4,y8,(fun h => absurd h (by simp [RI.don,h9]))⟩
   ·have hd := hd _ rfl; simp [Region.binds] at hd
    obtain rfl := p5 (by simp [hd]); refine RI.wpOp_plain rfl rfl ?_; have e1 := HS1.out; have e2 := HS2.out; have e3 := HS3.out; have e4 := HS4.out; go_simp; exact ⟨u0,u63,u64,u65,u66,u67,_,_,u70,rfl,hw,p0,p1,p2,p3,p5,fun _ => rfl,p7,p9,z4,y8,y9⟩
   ·have hd := hd _ rfl; simp [Region.binds] at hd
    obtain rfl := p0 (by simp [hd]); obtain rfl := p1 (by simp [hd]); obtain rfl := p2 (by simp [hd]); obtain rfl := p3 (by simp [hd]); refine RI.wpOp_plain rfl rfl ?_; go_simp; exact ⟨u0,_,_,_,_,u67,u68,u69,_,rfl,hw,p0,p1,p2,p3,p5,p6,fun _ => rfl,p9,z4,y8,y9⟩
   ·have hd := hd _ rfl; simp [Region.binds] at hd
    obtain rfl := p0 (by simp [hd]); obtain rfl := p1 (by simp [hd]); obtain rfl := p2 (by simp [hd]); obtain rfl := p3 (by simp [hd]); obtain rfl := p7 (by simp [hd]); refine RI.wpOp_plain rfl rfl ?_; obtain ⟨qa,qc,rfl,hb6⟩ := z4 (by simp [hd]); have GO8 := hw.a hf; have f2 := GO8.f.2.2.2.1; have ff := GO8.f.2.2.2.2.2 2; go_simp; exact ⟨u0,_,_,_,_,_,u68,u69,_,rfl,⟨nofun,hw.b.setCell (by dsimp only; have := HG4G.out; omega) _,fun _ => ⟨qa,qc,GV_set GO8 ⟨HG4N.out.1,HG4N.out.2.1,HG4N.out.2.2,HG4G.out⟩ (hb6 hf)⟩,hw.m⟩,p0,p1,p2,p3,p5,p6,p7,p9,fun _ => ⟨_,_,rfl,fun h => nomatch h⟩,fun _ => by simp [RI.don,hd],y9⟩
   ·have hd := hd _ rfl; simp [Region.binds] at hd
    obtain rfl := p0 (by simp [hd]); obtain rfl := p1 (by simp [hd]); obtain rfl := p2 (by simp [hd]); obtain rfl := p3 (by simp [hd]); obtain rfl := p5 (by simp [hd]); obtain rfl := p6 (by simp [hd]); obtain rfl := p7 (by simp [hd]); refine RI.wpOp_plain rfl rfl ?_; go_simp; exact ⟨_,_,_,_,_,u67,_,_,_,rfl,⟨hw.a,hw.b,hw.e,nofun⟩,p0,p1,p2,p3,p5,p6,p7,fun _ => rfl,z4,y8,fun _ => ⟨by simp [RI.don,hd],by simp [RI.don,hd]⟩⟩
  ·skip
   intro d x wx hI hd; obtain ⟨u0,u63,u64,u65,u66,u67,u68,u69,u70,rfl,hw,p0,p1,p2,p3,p5,p6,p7,p9,z4,y8,y9⟩ := hI; obtain rfl := p9 (hd 9 (by decide)); obtain ⟨va,vc,G0⟩ := hw.e (hd 8 (by decide)); clear hw p0 p1 p2 p3 p5 p6 p7 z4 y8 y9; generalize v.length = vl at *; obtain ⟨WL,eWL⟩ : ∃ WL,WL = wx := ⟨_,rfl⟩; subst eWL; go_wp2_with fail
   have HLT2 : Hid (g2 < gk ∧ gk < W1.heap.size) := ⟨by omega,by omega⟩; have HNE : Hid (g2 ≠ gk ∧ g4 ≠ gk ∧ w.heap.size ≤ gk ∧ gk < W1.heap.size) := ⟨by omega,by omega,by have := HG2B.out; omega,by omega⟩
   have KSH : Hid (∀ (i lo : Nat) (x : Value) (wx : World),Ow lo (prt i M) x wx → Calls Tryz.prog 68 #[x,.int .i64 1] wx fun e w' => ∃ y,e = .returned y ∧ Rv (cut 1 (prt i M)) y w' ∧ Below wx.heap.size wx w') := fun i lo x wx ho => by
    obtain ⟨ao,cp,e1,e2,e3⟩ := own_rv ho; subst e1; refine (shorter_any (prt i M) 1 ao cp _ wx rfl (show _ ≤ _ from Nat.le_trans (List.length_filter_le _ _) (by rw [HML.out]; have := HN.out; omega)) (own_rv ho) (fun r hr => List.length_pos_iff.2 (hM1.out r (List.mem_filter.1 hr).1))).mono fun e w' he => ?_
    obtain ⟨y,h1,h2,h3⟩ := he; exact ⟨y,h1,own_rv h2,h3⟩
   clear HNE0; go_loopw [71] (fun x wr => ∃ i : Nat,i ≤ 16 ∧ x = .int .i64 (i : Int) ∧ GO w W1.heap.size g2 g4 gk v (.slice va vl vc) T i wr) (fun x _ => ((16 : Int) - intOf x).toNat)
   case atStart => exact ⟨0,Nat.zero_le _,rfl,G0⟩
   case round =>
    obtain ⟨i,hi,rfl,hG⟩ := hrel; by_cases hlt : i < 16
    ·have d1 : decide ((i : Int) < 16) = true := decide_eq_true (by omega); have HGi : Hid (GO w W1.heap.size g2 g4 gk v (.slice va vl vc) T i wr) := hG; have HBi : Hid (Below w.heap.size w wr) := hG.b; have i16 : Hid ((i : Int) < 16) := by show _ < _; omega
     have i16' : Hid ((0 : Int) ≤ (i : Int)) := by show _ ≤ _; omega
     clear hG; generalize wr = wo at *; clear wr; go_wp2_with fail
     go_loopw [6,76] (fun o x wr => ∃ k : Nat,k ≤ m ∧ x = .int .i64 (k : Int) ∧ Ow wo.heap.size (prt i (M.take k)) o wr ∧ Below wo.heap.size wo wr) (fun _ x _ => ((m : Int) - intOf x).toNat)
     case atStart => exact ⟨0,Nat.zero_le _,rfl,World.ownsRow_nil _ _ _ _,Below.refl _ _⟩
     case round =>
      obtain ⟨k,hk,rfl,ho,hB⟩ := hrel; by_cases hkl : k < m
      ·have d2 : decide ((k : Int) < (m : Int)) = true := decide_eq_true (by omega); have d3 : (0 : Int) ≤ (k : Int) := by omega
       have d4 : (k : Int) < (m : Int) := by omega
       obtain ⟨y0,y1⟩ := HMC.out k hkl; have z0 := ((HBi.out.trans (hB.mono HBi.out.size)).cell (p := ⟨g,off + 2 + 2 * k,none⟩) HC0.out).trans y0; have z1 := ((HBi.out.trans (hB.mono HBi.out.size)).cell (p := ⟨g,off + 2 + 2 * k + 1,none⟩) HC0.out).trans y1; rw [Nat.mul_comm 2 k] at z0 z1; have hMk : k < M.length := by rw [HML.out]; exact hkl
       have hne : (M.getD k n2).1 ≠ [] := hM1.out _ (by rw [List.getD_eq_getElem?_getD,List.getElem?_eq_getElem hMk]; exact List.getElem_mem hMk)
       have HPT : Hid (prt i (M.take (k + 1)) = prt i (M.take k) ++ (if ((M.getD k n2).1.headD 0).toNat = i then [M.getD k n2] else [])) := prt_take i M k hMk; have HPL : Hid ((prt i (M.take k)).length ≤ k) := Nat.le_trans (List.length_filter_le _ _) (by rw [List.length_take]; omega)
       obtain ⟨A,eA⟩ : ∃ A,A = st (M.getD k n2).1 := ⟨_,rfl⟩; obtain ⟨Z,eZ⟩ : ∃ Z,Z = st (M.getD k n2).2 := ⟨_,rfl⟩; have hAs : 0 < A.size := by rw [eA,st_size]; exact List.length_pos_iff.2 hne
       have hAv : (A[0]'hAs).toNat = ((M.getD k n2).1.headD 0).toNat := by
        subst eA; exact st_head _ hne hAs
       have HLT : Hid (∀ W : World,Rv [M.getD k n2] (.slice (some ⟨W.heap.size,0,none⟩) 1 1) (W.alloc (.cells #[.string A,.string Z] 90))) := fun W => by rw [eA,eZ]; exact lit_rv _ W
       rw [← eA] at z0; rw [← eZ] at z1; clear y0 y1 eA eZ hne; have E5 : Hid (wrap64 ((k : Int) + 1) = ((k + 1 : Nat) : Int)) := by have := HN.out; show _ = _; unfold wrap64; omega
       have bA : Below wr.heap.size wr (wr.alloc (.cells #[.string A,.string Z] 90)) := (Below.refl _ _).alloc (Nat.le_refl _) _; have hc8 : ((M.getD k n2).1.headD 0).toNat < 256 := UInt8.toNat_lt _; generalize ((M.getD k n2).1.headD 0).toNat = cc at *; by_cases hci : cc = i
       ·have t1 : ((cc : Int) == (i : Int)) = true := beq_iff_eq.2 (by omega); have t2 : (cc == i) = true := beq_iff_eq.2 hci; have t3 : (wrap64 (cc : Int) == (i : Int)) = true := beq_iff_eq.2 (by unfold wrap64; omega)
        have HPT2 : Hid (prt i (M.take (k + 1)) = prt i (M.take k) ++ [M.getD k n2]) := by show _ = _; rw [HPT.out,if_pos hci]
        obtain ⟨v',w',hap,ho',hb',hgr⟩ := app_rv (lo := wo.heap.size) 86 (Pk.ownb (Pk.ownb ho bA) ((Below.refl _ _).alloc (Nat.le_refl _) (.cells #[.string A,.string Z] 90))) (HLT.out (wr.alloc (.cells #[.string A,.string Z] 90))) (by have := hB.size; simp; omega) (by have := HPL.out; have := HN.out; rw [List.length_singleton]; omega)
        rw [show (wr.alloc (.cells #[.string A,.string Z] 90)).heap.size = wr.heap.size + 1 by simp] at hap; have HZ : Hid (Below wo.heap.size wo w') := (hB.trans ((bA.alloc (by simp) _).mono hB.size)).trans hb'; have HO : Hid (Ow wo.heap.size (prt i (M.take (k + 1))) v' w') := by show Ow _ _ _ _; rw [HPT2.out]; exact ho'
        clear ho' hb' hgr bA hci; obtain ⟨oa,on,oc,rfl⟩ := own_slice ho; clear ho hB; go_wp2_with (at_builtin; refine wpl_app rfl rfl rfl rfl hap ?_)
        rw [E5.out]; exact ⟨⟨k + 1,hkl,rfl,HO.out,HZ.out⟩,msr_up k m hkl⟩
       ·have t1 : ((cc : Int) == (i : Int)) = false := beq_eq_false_iff_ne.2 (by omega); have t2 : (cc == i) = false := beq_eq_false_iff_ne.2 hci; have t3 : (wrap64 (cc : Int) == (i : Int)) = false := beq_eq_false_iff_ne.2 (by unfold wrap64; omega)
        have HPT2 : Hid (prt i (M.take (k + 1)) = prt i (M.take k)) := by show _ = _; rw [HPT.out,if_neg hci,List.append_nil]
        have HZ : Hid (Below wo.heap.size wo (wr.alloc (.cells #[.string A,.string Z] 90))) := hB.trans (bA.mono hB.size); have HO : Hid (Ow wo.heap.size (prt i (M.take (k + 1))) u6 (wr.alloc (.cells #[.string A,.string Z] 90))) := by show Ow _ _ _ _; rw [HPT2.out]; exact Pk.ownb ho bA
        clear bA hci; clear ho hB; go_wp2_with fail
        rw [E5.out]; exact ⟨⟨k + 1,hkl,rfl,HO.out,HZ.out⟩,msr_up k m hkl⟩
      ·have d2 : decide ((k : Int) < (m : Int)) = false := decide_eq_false (by omega); have ek : M.take k = M := List.take_of_length_le (by rw [HML.out]; omega)
       rw [ek] at ho; have HGo : GO w W1.heap.size g2 g4 gk v (.slice va vl vc) T i wr := GO_below HGi.out hB; obtain ⟨oa,on,oc,rfl⟩ := own_slice ho; have HRv := own_rv ho; have HOW : Hid (Ow wo.heap.size (prt i M) (.slice oa on oc) wr) := ho; clear ho hB d2 ek HGi HBi; go_upto_region 21 with fail
       have hw21 : GX w W1.heap.size g2 g4 gk v (.slice va vl vc) T i wo.heap.size (prt i M) (.slice oa on oc) false wr.drew := ⟨fun _ => GO_below HGo (Below.refl _ _).drew,fun _ => Pk.ownb HOW.out (Below.refl _ _).drew,nofun⟩
       clear HGo HRv HOW; refine RI.wp_region_inv (GK21v w W1.heap.size wo.heap.size T v (prt i M) g off n cap g2 g4 gk i k X oa on oc m vc vl va u8 u27 u28 u29 u30 u31 u32 u33 u34 u35 u36 u37 u38 u39 u40 u63 u64 u65 u66 u67 u68 u69 u70 u78 u79 u80 u81 u82 u83 u84 u85 u86 u87 u88 u89 u90 u98) (by kernel_rfl) (by kernel_rfl) ?_ ?_ ?_
       ·exact ⟨u91,u92,u93,u94,u95,u96,u97,rfl,hw21,nofun,nofun,nofun,nofun,nofun,nofun,nofun,nofun⟩
       ·skip
        intro d x wx i hI hi hm; obtain ⟨u91,u92,u93,u94,u95,u96,u97,rfl,hw,p0,p1,p2,p3,p6,z4,z5,y7⟩ := hI; have hi' : i = 0 ∨ i = 1 ∨ i = 2 ∨ i = 3 ∨ i = 4 ∨ i = 5 ∨ i = 6 ∨ i = 7 := by simp at hi; omega
        have hd := hm.2; have hf := hm.1; clear hm hi; rcases hi' with rfl | rfl | rfl | rfl | rfl | rfl | rfl | rfl
        ·refine RI.wpOp_plain rfl rfl ?_; go_simp; exact ⟨_,u92,u93,u94,u95,u96,u97,rfl,hw,fun _ => rfl,p1,p2,p3,p6,z4,z5,y7⟩
        ·have hd := hd _ rfl; simp [Region.binds] at hd
         obtain rfl := p0 (by simp [hd]); refine RI.wpOp_plain rfl rfl ?_; have h7 : d 7 = false := by cases h : d 7 with | false => rfl | true => exact absurd (y7 h).1 (by simp [hf])
         have x0 := (hw.a h7).f.2.2.2.2.1; go_simp; exact ⟨_,_,u93,u94,u95,u96,u97,rfl,hw,p0,fun _ => rfl,p2,p3,p6,z4,z5,fun h => absurd h (by simp [RI.don,h7])⟩
        ·refine RI.wpOp_plain rfl rfl ?_; go_simp; exact ⟨u91,u92,_,u94,u95,u96,u97,rfl,hw,p0,p1,fun _ => rfl,p3,p6,z4,z5,y7⟩
        ·refine RI.wpOp_plain rfl rfl ?_; go_simp; exact ⟨u91,u92,u93,_,u95,u96,u97,rfl,hw,p0,p1,p2,fun _ => rfl,p6,z4,z5,y7⟩
        ·have hd := hd _ rfl; simp [Region.binds] at hd
         obtain rfl := p3 (by simp [hd]); refine RI.wpOp_plain rfl rfl ?_; have h7 : d 7 = false := by cases h : d 7 with | false => rfl | true => exact absurd (y7 h).2.1 (by simp [hf])
         have oo := hw.o h7; go_simp; refine (KSH.out i _ _ _ oo).mono ?_; rintro e w1 ⟨x1,rfl,hs1,hb1⟩; exact ⟨u91,u92,u93,_,_,u96,u97,rfl,GX_below hw hb1,p0,p1,p2,p3,p6,fun _ _ => hs1,(fun h => (z5 h).imp fun y hy => ⟨hy.1,fun k => Nv_below (hy.2 k) hb1⟩),fun h => absurd h (by simp [RI.don,h7])⟩
        ·have hd := hd _ rfl; simp [Region.binds] at hd
         refine RI.wpOp_plain rfl rfl ?_; have h7 : d 7 = false := by cases h : d 7 with | false => rfl | true => exact absurd (y7 h).2.2 (by simp [hf])
         have rv := z4 (by simp [hd]) h7; go_simp; refine (KG.out i _ _ hlt rv).mono ?_; rintro e w1 ⟨y,rfl,hy,hb1⟩; exact ⟨u91,u92,u93,u94,u95,_,u97,rfl,GX_below hw hb1,p0,p1,p2,p3,p6,(fun h k => Rv_below (z4 h k) hb1),fun _ => ⟨y,rfl,fun _ => Nv_mono hy (fun k h _ => Nat.le_trans (hw.a h7).s h)⟩,fun h => absurd h (by simp [RI.don,h7])⟩
        ·have hd := hd _ rfl; simp [Region.binds] at hd
         obtain rfl := p0 (by simp [hd]); obtain rfl := p1 (by simp [hd]); obtain rfl := p2 (by simp [hd]); obtain rfl := p3 (by simp [hd]); refine RI.wpOp_plain rfl rfl ?_; have e16 := i16.out; have e16' := i16'.out; go_simp; exact ⟨_,_,_,_,u95,u96,_,rfl,hw,p0,p1,p2,p3,fun _ => rfl,z4,z5,y7⟩
        ·have hd := hd _ rfl; simp [Region.binds] at hd
         obtain rfl := p0 (by simp [hd]); obtain rfl := p1 (by simp [hd]); obtain rfl := p2 (by simp [hd]); obtain rfl := p3 (by simp [hd]); obtain rfl := p6 (by simp [hd]); refine RI.wpOp_plain rfl rfl ?_; obtain ⟨y,rfl,hy⟩ := z5 (by simp [hd]); have hyn := hy hf; obtain ⟨yk,b1,m1,e1,b2,m2,e2,b3,m3,e3,rfl⟩ := Nv_form hyn; refine wp_st4o rfl rfl rfl (there_sub (hw.a hf).k.t hlt) ?_; intro w1 gb1 s0 s1 s2 s3 so sf; have GN := GO_step (hw.a hf) hlt HNE.out.1 HNE.out.2.1 HNE.out.2.2.1 HNE.out.2.2.2 hyn gb1 s0 s1 s2 s3 so sf; simp only [Act.put]; exact ⟨_,_,_,_,u95,_,_,rfl,⟨nofun,nofun,fun _ => GN⟩,p0,p1,p2,p3,p6,(fun _ h => nomatch h),fun _ => ⟨_,rfl,fun h => nomatch h⟩,fun _ => ⟨by simp [RI.don,hd],by simp [RI.don,hd],by simp [RI.don,hd]⟩⟩
       ·skip
        intro d x wx hI hd; obtain ⟨u91,u92,u93,u94,u95,u96,u97,rfl,hw,p0,p1,p2,p3,p6,z4,z5,y7⟩ := hI; have GN := hw.e (hd 7 (by decide)); have HGN : Hid (GO w W1.heap.size g2 g4 gk v (.slice va vl vc) T (i + 1) wx) := GN; clear GN hw p0 p1 p2 p3 p6 z4 z5 y7; go_wp2_with fail
        exact ⟨⟨i + 1,hlt,by rw [Int.natCast_succ],HGN.out⟩,msr_up' i 16 hlt⟩
    ·have d1 : decide ((i : Int) < 16) = false := decide_eq_false (by omega); have ei : i = 16 := by omega
     subst ei; have HGE : GO w W1.heap.size g2 g4 gk v (.slice va vl vc) T 16 wr := hG; obtain ⟨_,f0,f1,f2,f3,_⟩ := hG.f; have hv2 := hG.v; have HNV : Hid (Nv (gk ≤ ·) wr (.mk 3 [] v ((List.range 16).map T)) (.int .i64 3,.slice none 0 0,(.slice va vl vc),.slice (some ⟨gk,0,none⟩) 16 16)) := GO_end hG (fun k hk => by have := HLT2.out; omega) (Nat.le_refl _)
     clear hG d1; go_wp2_with (refine wpList_st4 rfl rfl rfl rfl hv2 ?_; intro w9 gb9 s0 s1 s2 s3)
     have N9 : Nv (w.heap.size ≤ ·) w9 (.mk 3 [] v ((List.range 16).map T)) (.int .i64 3,.slice none 0 0,(.slice va vl vc),.slice (some ⟨gk,0,none⟩) 16 16) := Nv_mono (Nv_gb HNV.out gb9 (fun k hk e => by injection e with e; have := HLT2.out; omega)) (fun k hk _ => Nat.le_trans HNE.out.2.2.1 hk)
     have B9 : Below w.heap.size w w9 := HGE.b.grown gb9 HGE.b.size (fun k e => by injection e with e; have := HG2B.out; omega)
     exact bodyPost_ret (v := .agg #[.int .i64 3,.slice none 0 0,(.slice va vl vc),.slice (some ⟨gk,0,none⟩) 16 16]) (resN _ _ _ g2 2 _ _ _ _ rfl rfl s0 s1 s2 s3) rfl ⟨(.int .i64 3,.slice none 0 0,(.slice va vl vc),.slice (some ⟨gk,0,none⟩) 16 16),rfl,N9,B9⟩
end Tr
end Go.Proofs.YtlbdaccmnpcccaaGreatDoor
namespace Go.Proofs.YtlbdaccmnpcccaaGreatDoor
namespace Nb
open Go.RowKit
theorem vw_tail {x : UInt8} {p : List UInt8} {g off : Nat} {a1 : Option Addr} {w w' : World} (hg : g < w.heap.size) (hc : ∀ j,j < (x :: p).length → w.cell? ⟨g,off + j,none⟩ = some (.int .u8 (Sp.bz (x :: p) j))) (ha : 0 < p.length → a1 = some ⟨g,off + 1,none⟩) (hb : Below w.heap.size w w') : Sp.Vw p a1 w' := fun h0 => by
 refine ⟨g,off + 1,ha h0,Nat.lt_of_lt_of_le hg hb.size,fun j hj => ?_⟩
 have k := hc (j + 1) (by rw [List.length_cons]; omega)
 rw [hb.cell (p := ⟨g,off + 1 + j,none⟩) hg,show off + 1 + j = off + (j + 1) by omega,k]; rfl
theorem ncommon_any : ∀ (p q : List UInt8) (ap aq : Option Addr) (cp cq : Nat) (w : World),p.length ≤ cp → q.length ≤ cq → (cp : Int) ≤ 9223372036854775807 → (cq : Int) ≤ 9223372036854775807 → Hid ((p.length : Int) ≤ 140737488355328) → Sp.Vw p ap w → Sp.Vw q aq w →
  Calls Tryz.prog 67 #[.slice ap p.length cp,.slice aq q.length cq] w fun e w' => e = .returned (.int .i64 (cmn p q : Int)) ∧ Below w.heap.size w w' := by
 intro p; induction p with
 | nil =>
  intro q ap aq cp cq w _ _ _ _ _ _ _; have e : cmn [] q = 0 := by cases q <;> rfl
  rw [e,List.length_nil]; generalize q.length = m; go_enter Tryz.func67,Tryz.ntmps67
  go_wp2_with fail
  go_quiet (fail)
  go_wp2_with fail
  go_ret
  exact ⟨rfl,below_drewN (Below.refl _ _) _⟩
 | cons x p IH =>
  intro q ap aq cp cq w hcp hcq hc6 hd6 hl hp hq; cases q with
  | nil =>
   have e : cmn (x :: p) [] = 0 := rfl; rw [e,List.length_nil]; have n6 : (((x :: p).length : Int) == 0) = false := beq_false_of_ne (by rw [List.length_cons]; omega)
   clear hp hq hl IH hcp hcq; generalize (x :: p).length = n at *; go_enter Tryz.func67,Tryz.ntmps67
   go_wp2_with fail
   go_quiet (fail)
   go_wp2_with fail
   go_ret
   exact ⟨rfl,below_drewN (Below.refl _ _) _⟩
  | cons y q =>
   obtain ⟨g,off,rfl,hg,hc⟩ := hp (by rw [List.length_cons]; omega)
   obtain ⟨h,ofh,rfl,hh,hd⟩ := hq (by rw [List.length_cons]; omega)
   have c0 := hc 0 (by rw [List.length_cons]; omega)
   have c1 := hd 0 (by rw [List.length_cons]; omega)
   rw [Nat.add_zero] at c0 c1; have n6 : (((x :: p).length : Int) == 0) = false := beq_false_of_ne (by rw [List.length_cons]; omega)
   have n7 : (((y :: q).length : Int) == 0) = false := beq_false_of_ne (by rw [List.length_cons]; omega)
   have n8 : (0 : Int) < ((x :: p).length : Int) := by rw [List.length_cons]; omega
   have n9 : (0 : Int) < ((y :: q).length : Int) := by rw [List.length_cons]; omega
   have m8 : (1 : Int) ≤ ((x :: p).length : Int) := by rw [List.length_cons]; omega
   have m9 : (1 : Int) ≤ ((y :: q).length : Int) := by rw [List.length_cons]; omega
   have KK : Hid (∀ (a1 a2 : Option Addr) (wx : World),(0 < p.length → a1 = some ⟨g,off + 1,none⟩) → (0 < q.length → a2 = some ⟨h,ofh + 1,none⟩) → Below w.heap.size w wx → Calls Tryz.prog 67 #[.slice a1 ((x :: p).length - 1) (cp - 1),.slice a2 ((y :: q).length - 1) (cq - 1)] wx fun e w' => e = .returned (.int .i64 (cmn p q : Int)) ∧ Below wx.heap.size wx w') := fun a1 a2 wx h1 h2 hb => by
    rw [List.length_cons] at hcp hcq; have k := IH q a1 a2 (cp - 1) (cq - 1) wx (by omega) (by omega) (by omega) (by omega) (by have := hl.out; rw [List.length_cons] at this; show _ ≤ _; omega) (vw_tail hg hc h1 hb) (vw_tail hh hd h2 hb)
    exact k
   have HN : Hid ((x :: p).length = p.length + 1) := List.length_cons; have HM : Hid ((y :: q).length = q.length + 1) := List.length_cons; have HA : Hid ((x :: p).length ≤ cp) := hcp; have HB : Hid ((y :: q).length ≤ cq) := hcq; have HW : Hid (IntKind.i64.wrap (1 + (cmn p q : Int)) = ((cmn p q + 1 : Nat) : Int)) := by
    have := hl.out; have := cmn_le p q; rw [List.length_cons] at *; show _ = _
    rw [IntKind.wrap_i64]; omega
   by_cases e : x = y
   ·have E : Hid (cmn (x :: p) (y :: q) = cmn p q + 1) := by show _ = _; rw [cmn,if_pos e]
    have t1 : (Sp.bz (x :: p) 0 != Sp.bz (y :: q) 0) = false := by subst e; simp [Sp.bz]
    rw [E.out]; clear hp hq hl IH hcp hcq hc hd e E; generalize Sp.bz (x :: p) 0 = X at *; generalize Sp.bz (y :: q) 0 = Y at *; generalize (x :: p).length = n at *; generalize (y :: q).length = m at *; generalize cmn p q = c at *; by_cases hp1 : cp = 1
    ·subst hp1; by_cases hq1 : cq = 1
     ·subst hq1; go_enter Tryz.func67,Tryz.ntmps67
      go_wp2_with fail
      go_quiet (fail)
      go_upto_region 3 with fail
      refine RS.wp_region_one (fun wx => Below w.heap.size w wx) (by kernel_rfl) (by kernel_rfl) ((below_drewN (Below.refl _ _) _).drew) ?_
      dsimp only [List.toList_toArray]
      iterate 4
       refine RS.go1 (v := ?_) (a' := ?_) rfl ?_ ?_ ?_; rotate_left 2
       ·intro K wx hS hK; go_simp; exact hK _ hS
       ·simp only [Act.put,zA,zB,zC]; rfl
      refine RS.go1 (v := ?_) (a' := ?_) rfl ?_ ?_ ?_; rotate_left 2
      ·intro K wx hS hK; go_simp; refine (KK.out _ _ _ (fun h => by first | rfl | (exfalso; have := HN.out; have := HM.out; have := HA.out; have := HB.out; omega)) (fun h => by first | rfl | (exfalso; have := HN.out; have := HM.out; have := HA.out; have := HB.out; omega)) hS).mono (fun e w2 he => ?_)
       refine ⟨_,he.1,?_⟩; exact hK _ (hS.trans (he.2.mono hS.size))
      ·simp only [Act.put,zA,zB,zC]; rfl
      iterate 2
       refine RS.go1 (v := ?_) (a' := ?_) rfl ?_ ?_ ?_; rotate_left 2
       ·intro K wx hS hK; go_simp; exact hK _ hS
       ·simp only [Act.put,zA,zB,zC]; rfl
      refine RS.go_end ?_; intro w9 hb; go_wp2_with fail
      go_ret
      exact ⟨by rw [← HW.out]; rfl,hb⟩
     ·have n5 : (1 : Int) < (cq : Int) := by have := HM.out; have := HB.out; omega
      go_enter Tryz.func67,Tryz.ntmps67
      go_wp2_with fail
      go_quiet (fail)
      go_upto_region 3 with fail
      refine RS.wp_region_one (fun wx => Below w.heap.size w wx) (by kernel_rfl) (by kernel_rfl) ((below_drewN (Below.refl _ _) _).drew) ?_
      dsimp only [List.toList_toArray]
      iterate 4
       refine RS.go1 (v := ?_) (a' := ?_) rfl ?_ ?_ ?_; rotate_left 2
       ·intro K wx hS hK; go_simp; exact hK _ hS
       ·simp only [Act.put,zA,zB,zC]; rfl
      refine RS.go1 (v := ?_) (a' := ?_) rfl ?_ ?_ ?_; rotate_left 2
      ·intro K wx hS hK; go_simp; refine (KK.out _ _ _ (fun h => by first | rfl | (exfalso; have := HN.out; have := HM.out; have := HA.out; have := HB.out; omega)) (fun h => by first | rfl | (exfalso; have := HN.out; have := HM.out; have := HA.out; have := HB.out; omega)) hS).mono (fun e w2 he => ?_)
       refine ⟨_,he.1,?_⟩; exact hK _ (hS.trans (he.2.mono hS.size))
      ·simp only [Act.put,zA,zB,zC]; rfl
      iterate 2
       refine RS.go1 (v := ?_) (a' := ?_) rfl ?_ ?_ ?_; rotate_left 2
       ·intro K wx hS hK; go_simp; exact hK _ hS
       ·simp only [Act.put,zA,zB,zC]; rfl
      refine RS.go_end ?_; intro w9 hb; go_wp2_with fail
      go_ret
      exact ⟨by rw [← HW.out]; rfl,hb⟩
    ·have n4 : (1 : Int) < (cp : Int) := by have := HN.out; have := HA.out; omega
     by_cases hq1 : cq = 1
     ·subst hq1; go_enter Tryz.func67,Tryz.ntmps67
      go_wp2_with fail
      go_quiet (fail)
      go_upto_region 3 with fail
      refine RS.wp_region_one (fun wx => Below w.heap.size w wx) (by kernel_rfl) (by kernel_rfl) ((below_drewN (Below.refl _ _) _).drew) ?_
      dsimp only [List.toList_toArray]
      iterate 4
       refine RS.go1 (v := ?_) (a' := ?_) rfl ?_ ?_ ?_; rotate_left 2
       ·intro K wx hS hK; go_simp; exact hK _ hS
       ·simp only [Act.put,zA,zB,zC]; rfl
      refine RS.go1 (v := ?_) (a' := ?_) rfl ?_ ?_ ?_; rotate_left 2
      ·intro K wx hS hK; go_simp; refine (KK.out _ _ _ (fun h => by first | rfl | (exfalso; have := HN.out; have := HM.out; have := HA.out; have := HB.out; omega)) (fun h => by first | rfl | (exfalso; have := HN.out; have := HM.out; have := HA.out; have := HB.out; omega)) hS).mono (fun e w2 he => ?_)
       refine ⟨_,he.1,?_⟩; exact hK _ (hS.trans (he.2.mono hS.size))
      ·simp only [Act.put,zA,zB,zC]; rfl
      iterate 2
       refine RS.go1 (v := ?_) (a' := ?_) rfl ?_ ?_ ?_; rotate_left 2
       ·intro K wx hS hK; go_simp; exact hK _ hS
       ·simp only [Act.put,zA,zB,zC]; rfl
      refine RS.go_end ?_; intro w9 hb; go_wp2_with fail
      go_ret
      exact ⟨by rw [← HW.out]; rfl,hb⟩
     ·have n5 : (1 : Int) < (cq : Int) := by have := HM.out; have := HB.out; omega
      go_enter Tryz.func67,Tryz.ntmps67
      go_wp2_with fail
      go_quiet (fail)
      go_upto_region 3 with fail
      refine RS.wp_region_one (fun wx => Below w.heap.size w wx) (by kernel_rfl) (by kernel_rfl) ((below_drewN (Below.refl _ _) _).drew) ?_
      dsimp only [List.toList_toArray]
      iterate 4
       refine RS.go1 (v := ?_) (a' := ?_) rfl ?_ ?_ ?_; rotate_left 2
       ·intro K wx hS hK; go_simp; exact hK _ hS
       ·simp only [Act.put,zA,zB,zC]; rfl
      refine RS.go1 (v := ?_) (a' := ?_) rfl ?_ ?_ ?_; rotate_left 2
      ·intro K wx hS hK; go_simp; refine (KK.out _ _ _ (fun h => by first | rfl | (exfalso; have := HN.out; have := HM.out; have := HA.out; have := HB.out; omega)) (fun h => by first | rfl | (exfalso; have := HN.out; have := HM.out; have := HA.out; have := HB.out; omega)) hS).mono (fun e w2 he => ?_)
       refine ⟨_,he.1,?_⟩; exact hK _ (hS.trans (he.2.mono hS.size))
      ·simp only [Act.put,zA,zB,zC]; rfl
      iterate 2
       refine RS.go1 (v := ?_) (a' := ?_) rfl ?_ ?_ ?_; rotate_left 2
       ·intro K wx hS hK; go_simp; exact hK _ hS
       ·simp only [Act.put,zA,zB,zC]; rfl
      refine RS.go_end ?_; intro w9 hb; go_wp2_with fail
      go_ret
      exact ⟨by rw [← HW.out]; rfl,hb⟩
   ·have E : Hid (cmn (x :: p) (y :: q) = 0) := by show _ = _; rw [cmn,if_neg e]
    have t1 : (Sp.bz (x :: p) 0 != Sp.bz (y :: q) 0) = true := by
     simp only [Sp.bz,List.getD_cons_zero,bne_iff_ne,ne_eq]; intro h; exact e (UInt8.toNat_inj.1 (by omega))
    rw [E.out]; clear hp hq hl IH hcp hcq hc hd e E KK HW; generalize Sp.bz (x :: p) 0 = X at *; generalize Sp.bz (y :: q) 0 = Y at *; generalize (x :: p).length = n at *; generalize (y :: q).length = m at *; go_enter Tryz.func67,Tryz.ntmps67
    go_wp2_with fail
    go_quiet (fail)
    go_wp2_with fail
    go_ret
    exact ⟨rfl,below_drewN (Below.refl _ _) _⟩
end Nb
end Go.Proofs.YtlbdaccmnpcccaaGreatDoor
namespace Go.Proofs.YtlbdaccmnpcccaaGreatDoor
namespace Tr
open Nb Go.RowKit
theorem grown_nil (ao : Option Addr) (cap : Nat) (w : World) :
  Calls Tryz.prog 43 #[.slice ao 0 cap] w fun e w' => ∃ u : V4,e = .returned (v4 u) ∧ Nv (w.heap.size ≤ ·) w' Nd.no u ∧ Below w.heap.size w w' := by
 have HB : Below w.heap.size w (w.alloc (.cells #[.int .i64 0,.slice none 0 0,.slice none 0 0,.slice none 0 0] 25)) := (Below.refl _ _).alloc (Nat.le_refl _) _; have BV := B4_new w; go_enter Tryz.func43,Tryz.ntmps43
 go_wp2_with (refine wpList_st4 rfl rfl rfl rfl BV ?_; intro w9 gb9 s0 s1 s2 s3)
 have B9 : Below w.heap.size w w9 := HB.grown gb9 HB.size (fun k e => by injection e with e; omega)
 exact bodyPost_ret (v := .agg #[.int .i64 0,.slice none 0 0,.slice none 0 0,.slice none 0 0]) (resN _ _ _ w.heap.size 2 _ _ _ _ rfl rfl s0 s1 s2 s3) rfl ⟨(.int .i64 0,.slice none 0 0,.slice none 0 0,.slice none 0 0),rfl,Nv_no _ _,B9⟩
theorem ncm (p q : By) (hp : p.length ≤ 4194304) (a b : Value) (wx : World) (ha : SlC p a wx) (hb : SlC q b wx) : Calls Tryz.prog 67 #[a,b] wx fun e w' => e = .returned (.int .i64 (cmn p q : Int)) ∧ Below wx.heap.size wx w' := by
 obtain ⟨a1,c1,rfl,h1,h2,h3⟩ := ha; obtain ⟨a2,c2,rfl,k1,k2,k3⟩ := hb; exact ncommon_any p q a1 a2 c1 c2 wx h1 k1 h2 k2 (by show _ ≤ _; omega) h3 k3
theorem srt_cut {c : Nat} {p : By} {l : Rt} (hc : p.length = c) (h : ∀ r ∈ l,p <+: r.1) (hs : Srt l) : Srt (cut c l) := by
 have := pre_cut h; rw [hc] at this; rw [← this,srt_pre] at hs; exact hs
theorem srt_sub {l : Rt} (f : By × By → Bool) (hs : Srt l) : Srt (l.filter f) := List.Pairwise.filter f hs
theorem getLast_getD (a b : By × By) (l : Rt) : (b :: l).getLast (by simp) = (a :: b :: l).getD (l.length + 1) n2 := by
 rw [List.getD_cons_succ,List.getLast_eq_getElem,List.getD_eq_getElem?_getD,List.getElem?_eq_getElem (by simp)]; simp
theorem grown_all : ∀ (N : Nat) (l : Rt) (v : Value) (w : World),Rv l v w → l.length ≤ 1048576 → (∀ r ∈ l,r.1.length < N) → N ≤ 65 → Srt l → Pts l →
  Calls Tryz.prog 43 #[v] w fun e w' => ∃ u : V4,e = .returned (v4 u) ∧ Nv (w.heap.size ≤ ·) w' (grow N l) u ∧ Below w.heap.size w w'
 | 0,[],v,w,hv,_,_,_,_,_ => by
  obtain ⟨ao,cap,rfl,_,_⟩ := hv; exact grown_nil ao cap w
 | 0,a :: l,_,_,_,_,h,_,_,_ => absurd (h a (List.mem_cons_self ..)) (by omega)
 | N + 1,[],v,w,hv,_,_,_,_,_ => by
  obtain ⟨ao,cap,rfl,_,_⟩ := hv; exact grown_nil ao cap w
 | N + 1,[a],v,w,hv,_,_,_,_,_ => by
  obtain ⟨ao,cap,rfl,_,hq⟩ := hv; obtain ⟨g,off,rfl,hg,hc⟩ := hq (by simp); obtain ⟨c0,c1⟩ := hc 0 (by simp); exact grown_leaf a.1 a.2 g off cap w hg c0 c1
 | N + 1,a :: b :: l,v,w,hv,hn,hN,h65,hs,hp => by
  obtain ⟨ao,cap,rfl,hcap,hq⟩ := hv; obtain ⟨g,off,rfl,hg,hc⟩ := hq (by simp); have hz : (b :: l).getLast (by simp) = (a :: b :: l).getD (l.length + 1) n2 := getLast_getD a b l; have hz2 : (a :: b :: l).getLast (by simp) = (b :: l).getLast (by simp) := List.getLast_cons (by simp); obtain ⟨z,ez⟩ : ∃ z,z = (b :: l).getLast (by simp) := ⟨_,rfl⟩; have hzm : z ∈ a :: b :: l := by rw [ez]; exact List.mem_cons_of_mem _ (List.getLast_mem _)
  have hal : a.1.length ≤ 64 := by have := hN a (List.mem_cons_self ..); omega
  have hzl : z.1.length ≤ 64 := by have := hN z hzm; omega
  have hpre : ∀ r ∈ a :: b :: l,a.1.take (cmn a.1 z.1) <+: r.1 := fun r hr => by
   refine cmn_mid a.1 r.1 z.1 (srt_head hs r hr) ?_; have := srt_last hs (by simp) r hr; rw [hz2,← ez] at this; exact this
  have hcle := Nb.cmn_le a.1 z.1; have hlen : (a.1.take (cmn a.1 z.1)).length = cmn a.1 z.1 := by rw [List.length_take]; omega
  have hlc : (a :: b :: l).length = l.length + 2 := by simp
  unfold grow
  rw [← ez]; by_cases hcm : 0 < cmn a.1 z.1
  ·rw [if_pos hcm]; have hcut : ∀ r ∈ a :: b :: l,cmn a.1 z.1 ≤ r.1.length := fun r hr => by
    have := (hpre r hr).length_le; rw [hlen] at this; exact this
   refine grown_road a.1 z.1 g off cap (a :: b :: l).length (l.length + 1) (cmn a.1 z.1) w (by omega) (by omega) hn hg (hc 0 (by simp)).1 ?_ hcm hcle _ rfl (cut (cmn a.1 z.1) (a :: b :: l)) _ ?_ ?_ (by omega) (by omega) (fun x y wx hx hy => ncm a.1 z.1 (by omega) x y wx hx hy)
   ·have := (hc (l.length + 1) (by simp)).1; rw [← hz,← ez,Nat.mul_comm] at this; exact this
   ·intro wx hb; refine (shorter_any (a :: b :: l) (cmn a.1 z.1) (some ⟨g,off,none⟩) cap _ wx rfl (show _ ≤ _ by omega) (Rv_below ⟨_,_,rfl,hcap,fun _ => ⟨g,off,rfl,hg,hc⟩⟩ hb) hcut).mono fun e w' he => ?_
    obtain ⟨y,h1,h2,h3⟩ := he; exact ⟨y,h1,own_rv h2,h3⟩
   ·intro x wx hx; refine grown_all N _ x wx hx (by rw [cut_len]; exact hn) (fun r hr => ?_) (by omega) (srt_cut hlen hpre hs) ?_
    ·obtain ⟨s,hs1,rfl⟩ := List.mem_map.1 hr; have := hN s hs1; have := hcut s hs1; simp only [List.length_drop]; omega
    ·intro r hr c hcc; obtain ⟨s,hs1,rfl⟩ := List.mem_map.1 hr; exact hp s hs1 c (List.mem_of_mem_drop hcc)
  ·rw [if_neg hcm]; have hc0 : cmn a.1 z.1 = 0 := by omega
   have hKN : ∀ (x y : Value) (wx : World),SlC a.1 x wx → SlC z.1 y wx → Calls Tryz.prog 67 #[x,y] wx fun e w' => e = .returned (.int .i64 0) ∧ Below wx.heap.size wx w' := fun x y wx hx hy => by
    have := ncm a.1 z.1 (by omega) x y wx hx hy; rw [hc0] at this; exact this
   have hrest : ∀ r ∈ b :: l,r.1 ≠ [] := fun r hr e => by
    have := (List.pairwise_cons.1 hs).1 r hr; rw [e] at this; exact less_nil _ this
   have KGx : ∀ M : Rt,M.length ≤ 1048576 → (∀ r ∈ M,r ∈ a :: b :: l) → Srt M → (∀ r ∈ M,r.1 ≠ []) → ∀ (i : Nat) (x : Value) (wx : World),i < 16 → Rv (cut 1 (prt i M)) x wx → Calls Tryz.prog 43 #[x] wx fun e w' => ∃ y : V4,e = .returned (v4 y) ∧ Nv (wx.heap.size ≤ ·) w' (grow N (cut 1 (prt i M))) y ∧ Below wx.heap.size wx w' := fun M hM1 hM2 hM3 hM4 i x wx hi hx => by
    refine grown_all N _ x wx hx (by rw [cut_len]; exact Nat.le_trans (List.length_filter_le _ _) hM1) (fun r hr => ?_) (by omega) (srt_cut (p := [UInt8.ofNat i]) rfl (fun r hr => ?_) (srt_sub _ hM3)) ?_
    ·obtain ⟨s,hs1,rfl⟩ := List.mem_map.1 hr; have h1 := (List.mem_filter.1 hs1).1; have := hN s (hM2 s h1); have := List.length_pos_iff.2 (hM4 s h1); simp only [List.length_drop]; omega
    ·obtain ⟨_,q,e⟩ := prt_mem hM4 hr; rw [e]; exact ⟨q,rfl⟩
    ·intro r hr c hcc; obtain ⟨s,hs1,rfl⟩ := List.mem_map.1 hr; exact hp s (hM2 s (List.mem_filter.1 hs1).1) c (List.mem_of_mem_drop hcc)
   have hm1 : ((a :: b :: l).getD (l.length + 1) n2).1 = z.1 := by rw [← hz,← ez]
   by_cases ha : a.1 = []
   ·rw [if_pos ha,if_pos ha]; exact grown_fork_v (a :: b :: l) (b :: l) a.1 z.1 a.2 g off cap (a :: b :: l).length (l.length + 1) w (by omega) (by omega) hn rfl hcap hg rfl hm1 ha rfl rfl hrest (fun j hj => hc j hj) _
     (KGx (b :: l) (by rw [List.length_cons] at *; omega) (fun r hr => List.mem_cons_of_mem _ hr) (List.pairwise_cons.1 hs).2 hrest) (by omega) (by omega) hKN
   ·rw [if_neg ha,if_neg ha]; have hall : ∀ r ∈ a :: b :: l,r.1 ≠ [] := fun r hr => by
     rcases List.mem_cons.1 hr with rfl | hr
     ·exact ha
     ·exact hrest r hr
    exact grown_fork_n (a :: b :: l) (a :: b :: l) a.1 z.1 [] g off cap (a :: b :: l).length (l.length + 1) w (by omega) (by omega) hn rfl hcap hg rfl hm1 ha rfl rfl hall (fun j hj => hc j hj) _
     (KGx (a :: b :: l) hn (fun r hr => hr) hs hall) (by omega) (by omega) hKN
theorem grown_ok : GrownOk := fun l v w hv hn hN hs hp => grown_all 65 l v w hv hn hN (Nat.le_refl _) hs hp
end Tr
end Go.Proofs.YtlbdaccmnpcccaaGreatDoor
namespace Go.Proofs.YtlbdaccmnpcccaaGreatDoor
namespace Sp
open Go.ChangeShapes Go.WideShapes Go.ChangeAt Go.RowKit Go.Joins
theorem cellsU8 : Tryz.prog.cellsOf 5 = 1 := by kernel_rfl
def ub (zs : List Int) : List UInt8 := zs.map fun z => UInt8.ofNat z.toNat
theorem ub_length (zs : List Int) : (ub zs).length = zs.length := by simp [ub]
theorem ub_bz (zs : List Int) (hz : ∀ z ∈ zs,0 ≤ z ∧ z < 256) (j : Nat) (h : j < zs.length) : bz (ub zs) j = zs.getD j 0 := by
 have hm := hz zs[j] (List.getElem_mem h); have h2 : j < (ub zs).length := by rw [ub_length]; exact h
 unfold bz
 rw [List.getD_eq_getElem?_getD,List.getD_eq_getElem?_getD,List.getElem?_eq_getElem h2,List.getElem?_eq_getElem h]; simp only [Option.getD_some,ub,List.getElem_map,UInt8.toNat_ofNat']; omega
theorem open_bytes {H : Type} {enc : TypeId × Value → H} {W : World} {r : Reach} {b0 : Nat} {v : Value} {d : DataW H} {p : List MemPlace}
  (hv : Value.okWide Tryz.prog W r b0 22 v) (h : DataW.Trod enc Tryz.prog W 0 (fun _ => true) true 22 v d p) :
  ∃ (l : List UInt8) (ao : Option Addr) (cap : Nat),v = .slice ao l.length cap ∧ l.length ≤ cap ∧ Vw l ao W ∧ (l = [] ∨ ∃ elems spare,d = .slice elems spare ∧ elems.length = l.length) := by
 obtain ⟨a0,len,cap,rfl⟩ := okWide_slice Tryz.underlying22 hv; obtain ⟨fuel,hf⟩ := h; rcases open_ints Tryz.underlying22 Tryz.underlying5 cellsU8 hf with ⟨hcs,hx⟩ | ⟨a,len',cap',zs,hcs,_,hl,hm,hz,hx,hcell,hwz⟩
 ·simp [Value.cells] at hcs
  obtain ⟨rfl,rfl,rfl⟩ := hcs; exact ⟨[],none,0,rfl,Nat.le_refl _,Vw_nil _ _,.inl rfl⟩
 ·simp [Value.cells] at hcs
  obtain ⟨rfl,rfl,rfl⟩ := hcs; simp only [if_true] at hz; have hb : ∀ z ∈ zs,0 ≤ z ∧ z < 256 := fun z hz' => by have := bounds_u8 (hwz z hz'); omega
  have hb' : ∀ z ∈ zs.take len,0 ≤ z ∧ z < 256 := fun z hz' => hb z (List.mem_of_mem_take hz')
  have hlt : (ub (zs.take len)).length = len := by rw [ub_length,List.length_take]; omega
  simp only [Prod.mk.injEq] at hx; refine ⟨ub (zs.take len),some a,cap,by rw [hlt],by rw [hlt]; exact hl,?_,.inr ⟨_,_,hx.1,by simp [lits,hlt]; omega⟩⟩
  intro h0; rw [hlt] at h0; obtain ⟨b,off,rfl,hc⟩ := ints_at hcell (by omega); refine ⟨b,off,rfl,?_,fun j hj => ?_⟩
  ·exact World.block_lt_of_cell? W ⟨b,off + 0,none⟩ (hc 0 (by omega))
  ·rw [hlt] at hj; rw [hc j (by omega),ub_bz _ hb' j (by rw [List.length_take]; omega)]
   simp [List.getD_eq_getElem?_getD,hj]
end Sp
end Go.Proofs.YtlbdaccmnpcccaaGreatDoor
namespace Go.Proofs.YtlbdaccmnpcccaaGreatDoor
namespace Sp
open Go.ChangeShapes Go.WideShapes Go.ChangeAt Go.RowKit
end Sp
end Go.Proofs.YtlbdaccmnpcccaaGreatDoor
namespace Go.Proofs.YtlbdaccmnpcccaaGreatDoor
namespace Tr
open Nb Go.ChangeShapes Go.WideShapes Go.ChangeAt Go.RowKit
theorem wnk_many : ∀ ks : List Nd,ks.length ≤ wnk ks
 | [] => Nat.zero_le _
 | .mk k p v js :: r => by
  have := wnk_many r; unfold wnk wn
  rw [List.length_cons]; omega
theorem sm_wn {t : Nd} (h : Wf t) : wn t ≤ 4194304 → Sm t := by
 induction h with
 | mk k p v ks _ ih =>
  intro hw; unfold wn at hw
  have h1 := wnk_many ks; exact .mk k p v ks (by omega) (fun j hj => ih j hj (by have := wnk_one ks j hj; omega))
theorem blk1 {H : Type} (d : DataW H) : 1 ≤ Rows.uptoBulk d := by
 unfold Rows.uptoBulk
 split <;> omega
theorem blkN {H : Type} : ∀ l : List (DataW H),l.length ≤ Rows.uptoBulkAll l
 | [] => Nat.zero_le _
 | d :: r => by
  have h1 := blk1 d; have h2 := blkN r; rw [Rows.uptoBulkAll,List.length_cons]; omega
theorem wnk_blk {H : Type} (G : Nat → Nd) (D : Nat → DataW H) : ∀ l : List Nat,(∀ i,i ∈ l → wn (G i) ≤ Rows.uptoBulk (D i)) → wnk (l.map G) ≤ Rows.uptoBulkAll (l.map D)
 | [],_ => Nat.zero_le _
 | i :: r,h => by
  have h1 := h i (List.mem_cons_self ..); have h2 := wnk_blk G D r (fun j hj => h j (List.mem_cons_of_mem _ hj))
  rw [List.map_cons,List.map_cons,Rows.uptoBulkAll]; unfold wnk
  omega
theorem cellsNd : Tryz.prog.cellsOf 25 = 4 := by kernel_rfl
theorem text_of {H : Type} {enc : TypeId × Value → H} {W : World} {fuel : Nat} {cs : List Value} {x : DataW H × List MemPlace} (hf : DataW.trod enc Tryz.prog W 0 (fun _ => true) true fuel 22 cs = some x) :
  ∃ (b : By) (v : Value),cs = [v] ∧ Bs (· < W.heap.size) b v W ∧ b.length + 1 ≤ Rows.uptoBulk x.1 := by
 rcases open_ints Tryz.underlying22 Tryz.underlying5 Sp.cellsU8 hf with ⟨hcs,hx⟩ | ⟨a,len,cap,zs,hcs,_,hl,hm,hz,hx,hcell,hwz⟩
 ·subst hcs; exact ⟨[],_,rfl,Bs_nil _ _,blk1 _⟩
 ·subst hcs; simp only [if_true] at hz; have hb : ∀ z ∈ zs,0 ≤ z ∧ z < 256 := fun z hz' => by have := bounds_u8 (hwz z hz'); omega
  have hb' : ∀ z ∈ zs.take len,0 ≤ z ∧ z < 256 := fun z hz' => hb z (List.mem_of_mem_take hz')
  have hlt : (Sp.ub (zs.take len)).length = len := by rw [Sp.ub_length,List.length_take]; omega
  refine ⟨Sp.ub (zs.take len),_,rfl,⟨some a,cap,by rw [hlt],by rw [hlt]; exact hl,fun h0 => ?_⟩,?_⟩
  ·rw [hlt] at h0; obtain ⟨b,off,rfl,hc⟩ := ints_at hcell (by omega); have hbw : b < W.heap.size := World.block_lt_of_cell? W ⟨b,off + 0,none⟩ (hc 0 (by omega)); refine ⟨b,off,rfl,hbw,hbw,fun j hj => ?_⟩
   rw [hlt] at hj; rw [hc j (by omega),Sp.ub_bz _ hb' j (by rw [List.length_take]; omega)]
   simp [List.getD_eq_getElem?_getD,hj]
  ·subst hx; have h := blkN (lits (H := H) .u8 (zs.take len)); have e : (lits (H := H) .u8 (zs.take len)).length = len := by simp [lits]; omega
   rw [e] at h; rw [hlt]; show _ ≤ Rows.uptoBulk (.slice (lits .u8 (zs.take len)) (lits .u8 (zs.drop len)))
   rw [Rows.uptoBulk]; omega
theorem node_of {H : Type} {enc : TypeId × Value → H} {W : World} : ∀ (N fuel : Nat),fuel ≤ N → ∀ (cs : List Value) (x : DataW H × List MemPlace),DataW.trod enc Tryz.prog W 0 (fun _ => true) true fuel 25 cs = some x →
  ∃ (t : Nd) (u : V4),cs = [u.1,u.2.1,u.2.2.1,u.2.2.2] ∧ Nv (· < W.heap.size) W t u ∧ wn t ≤ Rows.uptoBulk x.1
 | 0,0,_,cs,x,h => by simp [DataW.trod] at h
 | N + 1,fuel,hN,cs,x,h => by
  obtain ⟨xs,n,rfl,rfl,hl,hlen,hf⟩ := DataW.trod_struct Tryz.underlying25 h; match xs,hlen with
  | [y0,y1,y2,y3],_ =>
   have f0 := hf 0 _ rfl; have f1 := hf 1 _ rfl; have f2 := hf 2 _ rfl; have f3 := hf 3 _ rfl; rw [cellsNd] at hl; match cs,hl with
   | [c0,c1,c2,c3],_ =>
    simp only [List.getElem?_cons_zero,List.getElem?_cons_succ] at f0 f1 f2 f3; obtain ⟨q,e0,hy0⟩ := DataW.trod_int Tryz.underlying3 f0; obtain ⟨b1,v1,e1,ht1,hb1⟩ := text_of f1; obtain ⟨b2,v2,e2,ht2,hb2⟩ := text_of f2; injection e0 with e0 _
    injection e1 with e1 _
    injection e2 with e2 _
    subst e0 e1 e2; have hB : Rows.uptoBulk (DataW.agg ([y0,y1,y2,y3].map (·.1))) = Rows.uptoBulk y0.1 + (Rows.uptoBulk y1.1 + (Rows.uptoBulk y2.1 + (Rows.uptoBulk y3.1 + 0))) + 1 := by
     rw [Rows.uptoBulk]; rfl
    have h0 := blk1 y0.1; rcases DataW.trod_slice Tryz.underlying23 f3 with ⟨hcs,hx⟩ | ⟨a,len,cap,elems,rest,m,rfl,hcs,hx,_,hle,_,hel,hat,_,_⟩
    ·injection hcs with hcs _
     subst hcs; have h3 := blk1 y3.1; exact ⟨.mk q b1 b2 [],(.int .i64 q,c1,c2,.slice none 0 0),rfl,.mk q b1 b2 [] _ _ _ [] ht1 ht2 rfl (Ks_nil _ _) (fun j hj => absurd hj (by simp)),by
      rw [hB]; unfold wn wnk; omega⟩
    ·injection hcs with hcs _
     subst hcs; have HI : ∀ i,∃ p : Nd × V4,i < len → (∃ cs',W.cells? 0 (a.add (i * 4)) 4 = some cs' ∧ cs' = [p.2.1,p.2.2.1,p.2.2.2.1,p.2.2.2.2]) ∧ Nv (· < W.heap.size) W p.1 p.2 ∧ wn p.1 ≤ Rows.uptoBulk (elems.getD i (.nil,[])).1 := fun i => by
      by_cases hi : i < len
      ·have k := hat i hi; rw [cellsNd] at k; rw [List.getElem?_eq_getElem (by omega)] at k; cases hc : W.cells? 0 (a.add (i * 4)) 4 with
       | none => rw [hc] at k; cases k
       | some cs' =>
        rw [hc] at k; obtain ⟨t,u,e1,e2,e3⟩ := node_of N m (by omega) cs' _ k; refine ⟨(t,u),fun _ => ⟨⟨cs',rfl,e1⟩,e2,?_⟩⟩
        rw [List.getD_eq_getElem?_getD,List.getElem?_eq_getElem (by omega)]; exact e3
      ·exact ⟨(Nd.no,n4),fun h => absurd h hi⟩
     obtain ⟨F,hF⟩ := Classical.axiomOfChoice HI; have hks : ((List.range len).map fun i => (F i).1).length = len := by simp
     have hvs : ((List.range len).map fun i => (F i).2).length = len := by simp
     refine ⟨.mk q b1 b2 ((List.range len).map fun i => (F i).1),(.int .i64 q,c1,c2,.slice (some a) len cap),rfl,.mk q b1 b2 _ _ _ _ ((List.range len).map fun i => (F i).2) ht1 ht2 (by rw [hvs,hks]) ⟨some a,cap,by rw [hvs],by rw [hvs]; exact hle,fun hp => ?_⟩ (fun j hj => ?_),?_⟩
     ·rw [hvs] at hp; obtain ⟨bl,off,spot⟩ := a; obtain ⟨cs',k1,k2⟩ := (hF 0 hp).1; obtain ⟨_,_,k3⟩ := World.cells?_some k1; have k4 := k3 0 (by decide); rw [k2] at k4; have hspot : spot = none := by simpa [Addr.add] using World.cell?_spot k4
      subst hspot; have hbw : bl < W.heap.size := World.block_lt_of_cell? W _ (by simpa [Go.WideShapes.add_plain] using k4); refine ⟨bl,off,rfl,hbw,hbw,fun j hj => ?_⟩
      rw [hvs] at hj; rw [getD_range _ _ _ _ hj]; obtain ⟨cs2,k5,k6⟩ := (hF j hj).1; obtain ⟨_,_,k7⟩ := World.cells?_some k5; rw [Go.WideShapes.add_plain] at k7; have g0 := k7 0 (by decide); have g1 := k7 1 (by decide); have g2 := k7 2 (by decide); have g3 := k7 3 (by decide); rw [Go.WideShapes.add_plain,k6] at g0 g1 g2 g3; rw [Nat.mul_comm 4 j]; exact ⟨g0,g1,g2,g3⟩
     ·rw [hks] at hj; rw [getD_range _ _ _ _ hj,getD_range _ _ _ _ hj]; exact (hF j hj).2.1
     ·have hw := wnk_blk (fun i => (F i).1) (fun i => (elems.getD i (.nil,[])).1) (List.range len) (fun i hi => (hF i (List.mem_range.1 hi)).2.2)
      have e2 : (List.range len).map (fun i => (elems.getD i (.nil,[])).1) = elems.map (·.1) := by
       apply List.ext_getElem
       ·simp [hel]
       ·intro i h1 h2; have : i < elems.length := by simpa using h2
        simp [this]
      rw [e2] at hw; have hy3 : Rows.uptoBulk y3.1 = Rows.uptoBulkAll (elems.map (·.1)) + Rows.uptoBulkAll (rest.map (·.1)) + 1 := by
       rw [hx,Rows.uptoBulk]
      rw [hB,hy3]; unfold wn
      omega
theorem open_node {H : Type} {enc : TypeId × Value → H} {W : World} {r : Reach} {b0 : Nat} {v : Value} {d : DataW H} {p : List MemPlace}
  (hv : Value.okWide Tryz.prog W r b0 25 v) (h : DataW.Trod enc Tryz.prog W 0 (fun _ => true) true 25 v d p) :
  ∃ (t : Nd) (u : V4),v = v4 u ∧ Nv (· < W.heap.size) W t u ∧ wn t ≤ Rows.uptoBulk d := by
 obtain ⟨cs,rfl,_⟩ := okWide_struct Tryz.underlying25 hv; obtain ⟨fuel,hf⟩ := h; obtain ⟨t,u,e1,e2,e3⟩ := node_of fuel fuel (Nat.le_refl _) _ _ hf; refine ⟨t,u,?_,e2,e3⟩; have e4 : cs.toList = [u.1,u.2.1,u.2.2.1,u.2.2.2] := e1; unfold v4
 rw [← e4]
end Tr
end Go.Proofs.YtlbdaccmnpcccaaGreatDoor
namespace Go.Proofs.YtlbdaccmnpcccaaGreatDoor
namespace Rt
open Nb Sp Pk Rs Go.RowKit
def cod (t : Nd) : List (List UInt8) := if Tr.gr t then cds t else []
def coe (t : Nd) : Int := if Tr.gr t then 0 else 1
end Rt
end Go.Proofs.YtlbdaccmnpcccaaGreatDoor
namespace Go.Proofs.YtlbdaccmnpcccaaGreatDoor
namespace Rt
open Nb Sp Pk Rs Go.RowKit
end Rt
end Go.Proofs.YtlbdaccmnpcccaaGreatDoor
namespace Go.Proofs.YtlbdaccmnpcccaaGreatDoor
namespace Rt
open Nb Sp Pk Rs Go.RowKit
end Rt
end Go.Proofs.YtlbdaccmnpcccaaGreatDoor
namespace Go.Proofs.YtlbdaccmnpcccaaGreatDoor
namespace Pk
open Go.RowKit Go.Shelf
attribute [local go_sem] Oper.semAt_some
def Li (w : World) (g : Nat) (v : Value) (bs : List UInt8) (W : World) : Prop :=
 ∃ v',Wt g bs v' W ∧ W.cell? ⟨w.heap.size,0,none⟩ = some (.pointer (some ⟨g,0,none⟩)) ∧ w.heap.size + 3 ≤ W.heap.size ∧ Fw g v v' w W ∧ (∀ k,v'.ownBlock = some k → k < w.heap.size ∨ w.heap.size + 3 ≤ k)
theorem Li_own (w : World) (g : Nat) (v : Value) (B : Nat) (hB : w.heap.size ≤ B) {β : Type} (f : β → List UInt8) : OwnFrom B (fun s W => Li w g v (f s) W) := by
 rintro s W W' row ⟨v',hw,hc,hh,hf,hx⟩ hg hr; have hr' : ∀ r,row = some r → ∃ o : Obj,W.heap[r]? = some o ∧ o.isCells = false := fun r e => (hr r e).2
 refine ⟨v',⟨Nat.lt_of_lt_of_le hw.hi hg.size,(frozen_kept hw.c hg hr').trans hw.f,cell_kept hw.c hg hr',hw.o.kept hg ?_⟩,cell_kept hc hg hr',Nat.le_trans hh hg.size,⟨hg.os.trans hf.os,hg.tape.trans hf.tape,hg.output.trans hf.output,Nat.le_trans hf.size hg.size,fun j hj h1 h3 => (hg.block j (Nat.lt_of_lt_of_le hj hf.size) (fun e => ?_)).trans (hf.block j hj h1 h3),hf.own⟩,hx⟩
 ·cases hv : v'.ownBlock with
  | none => exact .inl rfl
  | some k =>
   right
   intro e; obtain ⟨o,h4,h5⟩ := row_cells hw.o hv; obtain ⟨o',h6,h7⟩ := hr' k e.symm; rw [h4] at h6; injection h6 with h6
   subst h6; rw [h5] at h7; cases h7
 ·have := (hr j e.symm).1; omega
abbrev Enc1 (t : It) : Prop := ∀ (g : Nat) (bs : List UInt8) (v : Value) (u : V3) (w : World),Wt g bs v w → Iv (So w g v) w t u → (enc t).length ≤ 1048576 → bs.length + (enc t).length * (enc t).length + 32 ≤ 4398046511103 →
 Calls Tryz.prog 74 #[.pointer (some ⟨g,0,none⟩),v3 u] w fun e w' => e = .returned (.tuple #[]) ∧ ∃ v',Wt g (bs ++ (enc t).reverse) v' w' ∧ Fw g v v' w w'
theorem wt_slice {g : Nat} {bs : List UInt8} {v : Value} {w : World} (h : Wt g bs v w) : ∃ a c,v = .slice a bs.length c := by
 rcases h.o.2 with ⟨h3,h4⟩ | ⟨g3,cap3,cur,h3,_⟩
 ·exact ⟨none,0,by rw [h3,h4]⟩
 ·exact ⟨_,_,h3⟩
theorem Li_step {w W W' : World} {g Bs b : Nat} {v v1 v2 : Value} {cs : List UInt8} (hgw : g < w.heap.size) (hc1 : W.cell? ⟨w.heap.size,0,none⟩ = some (.pointer (some ⟨g,0,none⟩))) (hsz : w.heap.size + 3 ≤ W.heap.size) (hf1 : Fw g v v1 w W) (hx1 : ∀ k,v1.ownBlock = some k → k < w.heap.size ∨ w.heap.size + 3 ≤ k)
  (hcells : ∀ k o,v1.ownBlock = some k → W.heap[k]? = some o → o.isCells = true) (hgc : ∀ o,W.heap[g]? = some o → o.isCells = true)
  (hBs : Bs = w.heap.size + 2) (hb : b = w.heap.size ∨ So w g v b) (h2 : Wt g cs v2 W') (hf2 : Fw g v1 v2 W W') : KeepsOthers W W' ∧ Kp2 Bs b W W' ∧ Li w g v cs W' := by
 have kp : ∀ j,j < W.heap.size → j ≠ g → some j ≠ v1.ownBlock → ∀ o,W'.cell? ⟨j,o,none⟩ = W.cell? ⟨j,o,none⟩ := fun j hj h1 h3 o => World.cell?_of_block (a := ⟨j,o,none⟩) (hf2.block j hj h1 h3)
 have nh : ∀ j,j < 3 → some (w.heap.size + j) ≠ v1.ownBlock := fun j hj e => by have := hx1 _ e.symm; omega
 have hbb : b < W.heap.size ∧ b ≠ g ∧ some b ≠ v1.ownBlock := by
  rcases hb with rfl | hb
  ·exact ⟨by omega,by omega,nh 0 (by omega)⟩
  ·exact (So_fw hb hf1).1
 refine ⟨?_,fun o => ⟨?_,kp b hbb.1 hbb.2.1 hbb.2.2 o⟩,v2,h2,(kp _ (by omega) (by omega) (nh 0 (by omega)) 0).trans hc1,Nat.le_trans hsz hf2.size,Fw_trans hf1 hf2,fun k hk => ?_⟩
 ·exact ⟨hf2.size,fun j o hj ho => by
   have hlt : j < W.heap.size := (Array.getElem?_eq_some_iff.1 hj).1; refine (hf2.block j hlt (fun e => ?_) (fun e => ?_)).trans hj
   ·subst e; rw [hgc o hj] at ho; cases ho
   ·rw [hcells j o e.symm hj] at ho; cases ho⟩
 ·subst hBs; exact kp _ (by omega) (by omega) (nh 2 (by omega)) o
 ·rcases hf2.own with h | h
  ·exact hx1 k (by rw [← h]; exact hk)
  ·have := h k hk; omega
theorem Li_below {w W W' : World} {g : Nat} {v : Value} {bs : List UInt8} (h : Li w g v bs W) (hgw : w.heap.size < W.heap.size) (b : Below W.heap.size W W') : Li w g v bs W' := by
 obtain ⟨v1,h1,h2,h3,h4,h5⟩ := h; exact ⟨v1,Wt_below h1 b,(b.cell (p := ⟨w.heap.size,0,none⟩) hgw).trans h2,Nat.le_trans h3 b.size,Fw_trans h4 (Fw_below b),h5⟩
theorem wt_cells {g : Nat} {bs : List UInt8} {v : Value} {w : World} (h : Wt g bs v w) : (∀ k o,v.ownBlock = some k → w.heap[k]? = some o → o.isCells = true) ∧ (∀ o,w.heap[g]? = some o → o.isCells = true) := by
 refine ⟨fun k o hk ho => ?_,fun o ho => ?_⟩
 ·obtain ⟨o',h4,h5⟩ := row_cells h.o hk; rw [h4] at ho; injection ho with ho
  subst ho; exact h5
 ·have hc := h.c; simp only [World.cell?,ho] at hc; cases o <;> first | rfl | cases hc
theorem itemw_list (g : Nat) (bs t : List UInt8) (ks : List It) (vs : List V3) (v : Value) (a1 a2 : Option Addr) (n1 c1 c2 : Nat) (w : World) (hw : Wt g bs v w) (hl : Hid (vs.length = ks.length)) (hk : Kx (So w g v) vs (.slice a2 vs.length c2) w) (hi : ∀ j,j < ks.length → Iv (So w g v) w (ks.getD j It.no) (vs.getD j n3)) (IH : ∀ j,j < ks.length → Enc1 (ks.getD j It.no)) (hz : (encs ks).length ≤ 1048576) (hlen : bs.length + (encs ks).length * (encs ks).length + 32 ≤ 4398046511103) :
  Calls Tryz.prog 74 #[.pointer (some ⟨g,0,none⟩),.agg #[.bool true,.slice a1 n1 c1,.slice a2 vs.length c2]] w fun e w' => e = .returned (.tuple #[]) ∧ ∃ v',Wt g (bs ++ (enc (.mk true t ks)).reverse) v' w' ∧ Fw g v v' w w' := by
 obtain ⟨av,cv,rfl⟩ := wt_slice hw; have hwc := hw.c; have hgi := hw.hi; have hvn : vs.length ≤ 4194304 := by have := encs_many ks; have := hl.out; omega
 have hfm : ∀ j,j < vs.length → Fm (vs.getD j n3) := fun j hj => by
  obtain ⟨l,b1,m1,q1,b2,m2,q2,ev⟩ := Iv_form (hi j (by have := hl.out; omega))
  exact ⟨l,b1,m1,q1,b2,m2,q2,ev⟩
 obtain ⟨b,hbo,hbk⟩ : ∃ b,(b = w.heap.size ∨ So w g (.slice av bs.length cv) b) ∧ (0 < vs.length → ∃ off,a2 = some ⟨b,off,none⟩ ∧ b < w.heap.size ∧ ∀ j,j < vs.length → w.cell? ⟨b,off + 3 * j,none⟩ = some (vs.getD j n3).1 ∧ w.cell? ⟨b,off + 3 * j + 1,none⟩ = some (vs.getD j n3).2.1 ∧ w.cell? ⟨b,off + 3 * j + 2,none⟩ = some (vs.getD j n3).2.2) := by
  by_cases h0 : 0 < vs.length
  ·obtain ⟨ao,cap,e,_,h4⟩ := hk; obtain ⟨k,off,e2,hne,hlt,hc⟩ := h4 h0; injection e with e3 _ _
   exact ⟨k,.inr hne,fun _ => ⟨off,e3.trans e2,hlt,hc⟩⟩
  ·exact ⟨w.heap.size,.inl rfl,fun h => absurd h h0⟩
 have HVN : Hid (vs.length ≤ 4194304) := hvn; have HLEN : Hid (bs.length + (encs ks).length * (encs ks).length + 32 ≤ 4398046511103) := hlen; have HZ : Hid ((encs ks).length ≤ 1048576) := hz; clear hvn hlen hz hk; refine (callsIn_wide (n := 5)).1 ?_; refine callsIn_of_wp_marks Tryz.func74 rfl trivial ?_ rfl; simp only [Tryz.ntmps74,List.size_toArray,List.length_cons,List.length_nil,Nat.reduceAdd,Nat.reduceSub,Array.replicate_succ,Array.replicate_zero,List.push_toArray,List.append_toArray,List.nil_append,List.cons_append]; gi_wp2_with (refine ⟨trivial,?_⟩; gi_at_call 93; refine (bwi_in _ _ trivial rfl _ _ _ _).mono ?_; rintro e w' ⟨rfl,rfl⟩)
 rename_i Q' KQ hKQ
 have b2 : Below w.heap.size w (((w.alloc (.cells #[.pointer (some ⟨g,0,none⟩)] 164)).alloc (.cells #[.bool true,.slice a1 n1 c1,.slice a2 vs.length c2] 119)).alloc (.cells #[.slice a2 vs.length c2] 117)) := (((Below.refl _ _).alloc (Nat.le_refl _) _).alloc (by simp) _).alloc (by simp; omega) _
 have k1 : (((w.alloc (.cells #[.pointer (some ⟨g,0,none⟩)] 164)).alloc (.cells #[.bool true,.slice a1 n1 c1,.slice a2 vs.length c2] 119)).alloc (.cells #[.slice a2 vs.length c2] 117)).cell? ⟨w.heap.size,0,none⟩ = some (.pointer (some ⟨g,0,none⟩)) := by simp [go_sem]
 have k2 : (((w.alloc (.cells #[.pointer (some ⟨g,0,none⟩)] 164)).alloc (.cells #[.bool true,.slice a1 n1 c1,.slice a2 vs.length c2] 119)).alloc (.cells #[.slice a2 vs.length c2] 117)).cell? ⟨w.heap.size + 1 + 1,0,none⟩ = some (.slice a2 vs.length c2) := by simp [go_sem]
 have k3 : (((w.alloc (.cells #[.pointer (some ⟨g,0,none⟩)] 164)).alloc (.cells #[.bool true,.slice a1 n1 c1,.slice a2 vs.length c2] 119)).alloc (.cells #[.slice a2 vs.length c2] 117)).heap.size = w.heap.size + 3 := by simp
 generalize ((w.alloc (.cells #[.pointer (some ⟨g,0,none⟩)] 164)).alloc (.cells #[.bool true,.slice a1 n1 c1,.slice a2 vs.length c2] 119)).alloc (.cells #[.slice a2 vs.length c2] 117) = W0 at *; have L0 : Li w g (.slice av bs.length cv) (bs ++ flN ks (([] : List (Fin vs.length)).map (·.1))) W0 := by
  have e : bs ++ flN ks (([] : List (Fin vs.length)).map (·.1)) = bs := List.append_nil bs; rw [e]; exact ⟨_,Wt_below hw b2,k1,by omega,Fw_below b2,fun k hk => .inl (hw.o.lt k hk).2⟩
 refine wpIn_rangeFunc_ownH (F := Fence.wide) rfl (by decide) (gf := 108) (lb := #[.pointer (some ⟨w.heap.size + 1 + 1,0,none⟩)]) rfl trivial (enters_of Tryz.func108 (by kernel_rfl) rfl)
  (bwi_stops Fence.wide 4 trivial rfl (by decide) (w.heap.size + 1 + 1) b c2 a2 vs HVN.out hfm W0 (by omega) k2 (fun h0 => by
   obtain ⟨off,e,hlt,hc⟩ := hbk h0; exact ⟨off,e,Nat.lt_of_lt_of_le hlt b2.size,fun j hj => ⟨(b2.cell (p := ⟨b,off + 3 * j,none⟩) hlt).trans (hc j hj).1,(b2.cell (p := ⟨b,off + 3 * j + 1,none⟩) hlt).trans (hc j hj).2.1,(b2.cell (p := ⟨b,off + 3 * j + 2,none⟩) hlt).trans (hc j hj).2.2⟩⟩)) Kp2_t ?hKb (Below.refl _ _) (fun _ => rfl)
  (fun pre W => Li w g (.slice av bs.length cv) (bs ++ flN ks (pre.map (·.1))) W) (fun _ _ _ => False) (Li_own w g _ W0.heap.size (by omega) _) (fun _ _ _ _ _ h _ _ => h) L0
  (fun x a' W => ∃ Bx,w.heap.size + 3 ≤ Bx ∧ W.cell? ⟨Bx,0,none⟩ = some (vs.getD x.1 n3).1 ∧ W.cell? ⟨Bx,1,none⟩ = some (vs.getD x.1 n3).2.1 ∧ W.cell? ⟨Bx,2,none⟩ = some (vs.getD x.1 n3).2.2 ∧ a' = { tmps := #[.pointer (some ⟨g,0,none⟩),.agg #[.bool true,.slice a1 n1 c1,.slice a2 vs.length c2],.pointer (some ⟨w.heap.size,0,none⟩),.pointer (some ⟨w.heap.size + 1,0,none⟩),.int .i64 (bs.length : Int),undef,.pointer (some ⟨Bx,0,none⟩),.pointer (some ⟨w.heap.size + 1,0,none⟩),.bool true,.bool false,undef,undef,undef,undef,.pointer (some ⟨g,0,none⟩),.pointer (some ⟨g,0,none⟩),.pointer (some ⟨g,0,none⟩),.slice av bs.length cv,.int .i64 (bs.length : Int),.pointer (some ⟨w.heap.size + 1,2,none⟩),.slice a2 vs.length c2,.func (.func 108) #[] #[.pointer (some ⟨w.heap.size + 1 + 1,0,none⟩)],.int .i64 (x.1 : Int),v3 (vs.getD x.1 n3),undef,undef,undef,undef,undef,undef,undef,undef,undef,undef,undef,undef],defers := [] })
  (fun x a' _ A B row hs hg hr => by
   obtain ⟨Bx,h1,h2,h3,h4,h5⟩ := hs; have hr' : ∀ r,row = some r → ∃ o : Obj,A.heap[r]? = some o ∧ o.isCells = false := fun r e => (hr r e).2
   exact ⟨Bx,h1,cell_kept h2 hg hr',cell_kept h3 hg hr',cell_kept h4 hg hr',h5⟩) ?assign ?body ?done ?stop
 case hKb =>
  intro W l o o' hl _ _ _ i; have hb3 : b < W0.heap.size := by
   rcases hbo with rfl | hbo
   ·omega
   ·have := hbo.1; omega
  have e1 : (W.putObj l o').heap[w.heap.size + 1 + 1]? = W.heap[w.heap.size + 1 + 1]? := World.putObj_heap_other (fun e => by omega)
  have e2 : (W.putObj l o').heap[b]? = W.heap[b]? := World.putObj_heap_other (fun e => by omega)
  exact ⟨World.cell?_of_block (a := ⟨w.heap.size + 1 + 1,i,none⟩) e1,World.cell?_of_block (a := ⟨b,i,none⟩) e2⟩
 case assign =>
  intro l pre x W K hI hK; obtain ⟨lb,b1,m1,q1,b3,m2,q2,ev⟩ := hfm x.1 x.2; have hsz : w.heap.size + 3 ≤ W.heap.size := by obtain ⟨_,_,_,h,_⟩ := hI; exact h
  have HK : Hid _ := hK; rw [ev]; dsimp only [v3]; clear hK; gi_wp2
  have HA := heap_alloc_new W (.cells #[.bool lb,.slice b1 m1 q1,.slice b3 m2 q2] 119); refine HK.out _ _ ((KeepsOthers.alloc _ _).from _) (fun o => ⟨World.cell?_of_block (a := ⟨w.heap.size + 1 + 1,o,none⟩) (Below.heap_alloc W _ _ (by show w.heap.size + 1 + 1 < _; omega)),World.cell?_of_block (a := ⟨b,o,none⟩) (Below.heap_alloc W _ _ (by
   show b < _
   rcases hbo with rfl | hbo
   ·omega
   ·have := hbo.1; omega))⟩) ((Li_own w g _ W0.heap.size (by omega) (fun pre : List (Fin vs.length) => bs ++ flN ks (pre.map (·.1)))).alloc _ hI) ⟨W.heap.size,hsz,?_,?_,?_,?_⟩
  ·simp only [World.cell?,HA]; rw [ev]; rfl
  ·simp only [World.cell?,HA]; rw [ev]; rfl
  ·simp only [World.cell?,HA]; rw [ev]; rfl
  ·rw [ev]; rfl
 case body =>
  rintro l pre x a' W hl' - hI ⟨Bx,hBx,x0,x1,x2,rfl⟩ hN; obtain ⟨v1,hw1,hc1,hh1,hf1,hx1⟩ := hI; have hxk : x.1 < ks.length := by have := hl.out; have := x.2; omega
  obtain ⟨lb,b1,m1,q1,b3,m2,q2,ev⟩ := hfm x.1 x.2; have hroom := kid_room ks bs.length HLEN.out (pre.map (·.1)) (fun j hj => by
   obtain ⟨y,_,rfl⟩ := List.mem_map.1 hj; have := y.2; have := hl.out; omega) x.1 hxk (by rw [List.length_map]; have := hl.out; omega)
  have hone := encs_one ks x.1 hxk; have K : Hid (Calls Tryz.prog 74 #[.pointer (some ⟨g,0,none⟩),v3 (vs.getD x.1 n3)] W fun e w' => e = .returned (.tuple #[]) ∧ KeepsOthers W w' ∧ Kp2 (w.heap.size + 1 + 1) b W w' ∧ Li w g (.slice av bs.length cv) (bs ++ flN ks ((pre ++ [x]).map (·.1))) w') :=
   (IH x.1 hxk g _ v1 (vs.getD x.1 n3) W hw1 (Iv_fw (hi x.1 hxk) hf1) (by have := HZ.out; omega) (by rw [List.length_append]; exact hroom)).mono fun e w' he => by
    obtain ⟨h3,v',h4,h5⟩ := he; refine ⟨h3,?_⟩; rw [List.map_append,List.map_cons,List.map_nil,flN_app,← List.append_assoc]; exact Li_step hgi hc1 hh1 hf1 hx1 (wt_cells hw1).1 (wt_cells hw1).2 rfl hbo h4 h5
  rw [ev] at x0 x1 x2 K; rw [ev]; clear hroom hone hw1 hf1 hx1 ev; dsimp only [v3] at K ⊢; gi_wp2_with (refine ⟨trivial,?_⟩; gi_at_call 74; refine (CallsIn.inRound l (callsIn_wide.2 K.out)).mono ?_; rintro e w' ⟨rfl,h1,h2,h3⟩)
  exact ⟨h1.from _,h2,h3⟩
 case stop =>
  rintro D c pre W _ _ h _; exact h.elim
 case done =>
  rintro D ys W hD hS hI hK; have hD' : w.heap.size + 3 ≤ D := by omega
  rw [hS,hl.out,flN_all] at hI; have hI2 := Li_below hI (by obtain ⟨_,_,_,h,_⟩ := hI; omega) ((Below.refl W.heap.size W).drew)
  have hK2 : W.drew.heap[D]? = some (.deferred (some [])) := hK; show KQ _ _
  refine hKQ _ _ ?_; refine wpIn_wide.2 ?_; obtain ⟨W2,hW2⟩ : ∃ W2,W2 = W.drew := ⟨_,rfl⟩; have HW2 : Hid (W2 = W.drew) := hW2; rw [← hW2] at hI2 hK2; obtain ⟨v1,hw1,hc1,hh1,hf1,hx1⟩ := hI2; obtain ⟨d1,d2,rfl⟩ := wt_slice hw1; have cg := hw1.c; have el : (bs ++ (encs ks).reverse).length = bs.length + (encs ks).length := by rw [List.length_append,List.length_reverse]
  have HX : Hid (IntKind.i64.wrap ((bs.length : Int) + ((encs ks).length : Int) - (bs.length : Int)) = ((encs ks).length : Int)) := by
   show _ = _
   have := HZ.out; rw [IntKind.wrap_i64]; omega
  have HX2 : Hid (wrap64 ((bs.length : Int) + ((encs ks).length : Int) - (bs.length : Int)) = ((encs ks).length : Int)) := by
   show _ = _
   have := HZ.out; unfold wrap64; omega
  have KH : Hid (Calls Tryz.prog 94 #[.pointer (some ⟨g,0,none⟩),.int .u8 192,.int .i64 ((encs ks).length : Int)] W2 fun e w' => e = .returned (.tuple #[]) ∧ Li w g (.slice av bs.length cv) (bs ++ (enc (.mk true t ks)).reverse) w' ∧ w'.heap[D]? = some (.deferred (some []))) :=
   (head_any g 192 (encs ks).length _ _ W2 hw1 (by have := HZ.out; omega) (by decide) (by rw [el]; have := HLEN.out; have := Nat.le_mul_self (encs ks).length; omega)).mono fun e w' he => by
    obtain ⟨h3,v',h4,h5⟩ := he; have e2 : bs ++ (enc (.mk true t ks)).reverse = bs ++ (encs ks).reverse ++ (hdr 192 (encs ks).length).reverse := by
     unfold enc
     rw [List.reverse_append,List.append_assoc]
    rw [e2]; have hs := Li_step hgi hc1 hh1 hf1 hx1 (wt_cells hw1).1 (wt_cells hw1).2 rfl hbo h4 h5; exact ⟨h3,hs.2.2,hs.1.same D _ hK2 rfl⟩
  clear hw1 hf1 hx1 hI hh1 hfm hbk L0 hW2 IH hi hw; dsimp only
  refine RH.wp_region_genI (fun _ _ wx => Hid (wx = W2)) [0,0,0,0,0,0,0,0,2] (by kernel_rfl) (by kernel_rfl) (show Hid _ from HW2.out.symm) ?_
  dsimp only [List.toList_toArray]
  iterate 2
   refine RH.goD (v := ?_) (f' := ?_) rfl ?_ ?_ ?_; rotate_left 2
   ·intro U K d wx hI hmay hK; obtain rfl := hI.out; go_simp; exact hK _ rfl
   ·intro U; simp only [Act.put,zA,zB,zC]; rfl
  iterate 2
   refine RH.goD (v := ?_) (f' := ?_) rfl ?_ ?_ ?_; rotate_left 2
   ·intro U K d wx hI hmay hK; go_simp; exact hK _ (hI)
   ·intro U; simp only [Act.put,zA,zB,zC]; rfl
  refine RH.goD (v := ?_) (f' := ?_) rfl ?_ ?_ ?_; rotate_left 2
  ·intro U K d wx hI hmay hK; obtain rfl := hI.out; go_simp; exact hK _ rfl
  ·intro U; simp only [Act.put,zA,zB,zC]; rfl
  iterate 3
   refine RH.goD (v := ?_) (f' := ?_) rfl ?_ ?_ ?_; rotate_left 2
   ·intro U K d wx hI hmay hK; go_simp; exact hK _ (hI)
   ·intro U; simp only [Act.put,zA,zB,zC]; rfl
  refine RH.goT ?_; refine RH.go_end ?_; intro d U w9 hI hall; simp +decide only [RH.tl,if_true,if_false]
  obtain rfl := hI.out; clear hI hall; go_wp2_with fail
  rw [HX.out,HX2.out]; refine KH.out.mono (fun e w3 he => ?_)
  obtain ⟨rfl,hI3,hK3⟩ := he; go_wp2_with fail
  have hI4 := (Li_own w g (.slice av bs.length cv) W0.heap.size (by omega) (fun _ : Unit => bs ++ (enc (.mk true t ks)).reverse)).putObj (s := ()) (.deferred none) hI3 hD hK3 rfl
  obtain ⟨v',hw',_,_,hf',_⟩ := hI4; refine ⟨by simp,.inl ⟨_,_,rfl,run_takeDeferred hK3,?_⟩⟩; exact ⟨_,results_none rfl _ _ _,rfl,v',hw',hf'⟩
end Pk
end Go.Proofs.YtlbdaccmnpcccaaGreatDoor
namespace Go.Proofs
open Go.Shelf
def Tryz.laysRev_ren : Go.Shelf.Ren := ⟨fun | 35 => 75 | n => n,fun | 22 => 22 | 23 => 5 | 3 => 3 | 4 => 4 | 0 => 0 | n => n,fun | n => n⟩
theorem Tryz.laysRev : Go.Proofs.SlLaysE.n35 Tryz.prog Tryz.laysRev_ren := {
 mixed := by kernel_rfl
 f35 := ⟨Tryz.f75.name,by decide,Tryz.func75.trans (congrArg some (by kernel_rfl))⟩
 t0 := Tryz.underlying0
 a0 := Tryz.isAgg0
 z0 := Tryz.sizeOf0
 v0 := Tryz.zeroValue0
 t3 := Tryz.underlying3
 a3 := Tryz.isAgg3
 z3 := Tryz.sizeOf3
 v3 := Tryz.zeroValue3
 t4 := Tryz.underlying4
 a4 := Tryz.isAgg4
 z4 := Tryz.sizeOf4
 v4 := Tryz.zeroValue4
 t22 := Tryz.underlying22
 a22 := Tryz.isAgg22
 z22 := Tryz.sizeOf22
 v22 := Tryz.zeroValue22
 a23 := Tryz.isAgg5
 z23 := Tryz.sizeOf5 }
end Go.Proofs
namespace Go.Proofs.YtlbdaccmnpcccaaGreatDoor
namespace Pk
open Go.RowKit Go.Shelf
theorem itemw_any {t : It} (h : Wf t) : Enc1 t := by
 induction h with
 | mk l t ks _ ih =>
  intro g bs v u w hw hiv hz hl; cases hiv with
  | mk _ _ _ tv kv vs ht hn hk hi =>
   cases l with
   | false =>
    have h1 := enc_text_len t ks; have h2 := Nat.le_mul_self (enc (.mk false t ks)).length; obtain ⟨a2,c2,rfl,-,-⟩ := hk; exact itemw_text g bs t ks v tv a2 _ c2 w hw ht (by omega) (by omega)
   | true =>
    have h1 : (encs ks).length ≤ (enc (.mk true t ks)).length := by
     unfold enc
     rw [List.length_append]; omega
    have h2 := Nat.mul_le_mul h1 h1; obtain ⟨a1,c1,rfl,-,-⟩ := ht; obtain ⟨a2,c2,rfl,hc,hq⟩ := hk; exact itemw_list g bs t ks vs v a1 a2 _ c1 c2 w hw hn ⟨a2,c2,rfl,hc,hq⟩ hi ih (by omega) (by omega)
theorem gb_putRow {α : Type} [Inhabited α] {enc : α → Value} (w : World) (g q : Nat) (d : Array α) : w.grownBy (Sort.putRow enc (Sort.ahead w q) g 0 d) (some g) :=
 ⟨rfl,rfl,rfl,by simp [Sort.putRow,Sort.mapBlock,Sort.ahead],fun k hk hne => by
  have : g ≠ k := fun e => hne (by rw [e])
  simp [Sort.putRow,Sort.mapBlock,Sort.ahead,Array.getElem?_modify,this]⟩
theorem reverse_any (bs : List UInt8) (B : Nat) (v : Value) (w : World) (h : w.ownsRow B 5 1 v bs.length (bcs bs)) :
  Calls Tryz.prog 75 #[v] w fun e w' => e = .returned (.tuple #[]) ∧ w'.ownsRow B 5 1 v bs.length (bcs bs.reverse) ∧ w.grownBy w' v.ownBlock := by
 by_cases hv : v = .slice none 0 0
 ·subst hv; have hb : bs = [] := by
   rcases h.2 with ⟨_,h4⟩ | ⟨g,cap,cur,h3,_⟩
   ·exact List.length_eq_zero_iff.1 h4
   ·cases h3
  subst hb; refine (AnyE.slices_Reverse_empty Tryz.laysRev none 0 w).mono fun e w' he => ?_
  obtain ⟨h1,rfl⟩ := he; exact ⟨h1,h,⟨rfl,rfl,rfl,Nat.le_refl _,fun _ _ _ => rfl⟩⟩
 ·obtain ⟨g,cap,rfl,hb1,hb2,hb3,hb4,hb5,hH⟩ := Lib.holds_of_ownsRow (enc := fun x : UInt8 => Value.int .u8 (x.toNat : Int)) (zs := bs) h hv
  refine (AnyE.slices_Reverse Tryz.laysRev (fun x : UInt8 => Value.int .u8 (x.toNat : Int)) (fun _ => rfl) g 0 cap bs w hH (by unfold maxLen at hb4; omega)).mono fun e w' he => ?_
  obtain ⟨h1,n,rfl⟩ := he; have h2 := Lib.ownsRow_putRow (q := n) (ys := bs.reverse) h (by simp) (Nat.le_refl _); rw [List.take_of_length_le (by simp)] at h2; exact ⟨h1,h2,gb_putRow _ _ _ _⟩
theorem own_ty {lo : Nat} {b : List UInt8} {v : Value} {w : World} (h : w.ownsRow lo 5 1 v b.length (bcs b)) : Ty (lo ≤ ·) b v w := by
 rcases h.2 with ⟨h3,h4⟩ | ⟨g,cap,cur,h3,h5⟩
 ·have e : b = [] := List.length_eq_zero_iff.1 h4; subst e; subst h3; exact Ty_nil _ _
 ·subst h3; refine ⟨some ⟨g,0,none⟩,cap,rfl,h5.2.2.1,fun _ => ⟨g,0,rfl,h5.1,lt_of_heap h5.2.1,fun j hj => ?_⟩⟩
  rw [Nat.zero_add,h.cellAt _ (by omega)]; unfold bcs Sp.bz
  rw [List.getElem?_map,List.getElem?_eq_getElem hj,Option.map_some,List.getD_eq_getElem?_getD,List.getElem?_eq_getElem hj]; rfl
def Cp (v : Value) : Prop := ∀ ao n cap,v = .slice ao n cap → (cap : Int) ≤ 9223372036854775807
theorem own_cp {lo n : Nat} {xs : List Value} {v : Value} {w : World} (h : w.ownsRow lo 5 1 v n xs) : Cp v := by
 rcases h.2 with ⟨h3,h4⟩ | ⟨g,cap,cur,h3,h5⟩
 ·subst h3; intro ao n cap e; injection e with _ _ e3
  omega
 ·subst h3; intro ao n c e; injection e with _ _ e3
  have := h5.2.2.2.1; unfold maxLen at this
  omega
theorem encode_cp (t : It) (S : Nat → Prop) (u : V3) (w : World) (hiv : Iv S w t u) (hz : (enc t).length ≤ 1048576) :
  Calls Tryz.prog 56 #[v3 u] w fun e w' => ∃ v,e = .returned v ∧ Ty (w.heap.size ≤ ·) (enc t) v w' ∧ Cp v ∧ Below w.heap.size w w' := by
 have hq : (enc t).length * (enc t).length ≤ 1048576 * 1048576 := Nat.mul_le_mul hz hz; obtain ⟨lb,b1,m1,q1,b3,m2,q2,rfl⟩ := Iv_form hiv; have KI : Hid (∀ W : World,Below w.heap.size w W → W.heap.size = w.heap.size + 2 → W.cell? ⟨w.heap.size + 1,0,none⟩ = some (.slice none 0 0) → W.frozen? ⟨w.heap.size + 1,0,none⟩ = false → Calls Tryz.prog 74 #[.pointer (some ⟨w.heap.size + 1,0,none⟩),.agg #[.bool lb,.slice b1 m1 q1,.slice b3 m2 q2]] W fun e w' => e = .returned (.tuple #[]) ∧ ∃ v',Wt (w.heap.size + 1) (enc t).reverse v' w' ∧ Below w.heap.size w w') := fun W hb hs hc hf => by
  have hw : Wt (w.heap.size + 1) [] (.slice none 0 0) W := ⟨by omega,hf,hc,World.ownsRow_nil _ _ _ _⟩; have hv : Iv (So W (w.heap.size + 1) (.slice none 0 0)) W t (.bool lb,.slice b1 m1 q1,.slice b3 m2 q2) :=
   Iv_mono (Iv_below (Iv_mono (S' := fun k => k < w.heap.size) hiv (fun k _ h => h)) hb) (fun k h _ => ⟨by omega,by omega,nofun⟩)
  refine (itemw_any (wf_any t) _ [] _ _ W hw hv hz (by simp; omega)).mono fun e w' he => ?_
  obtain ⟨h1,v',h2,h3⟩ := he; rw [List.nil_append] at h2; exact ⟨h1,v',h2,⟨h3.os.trans hb.os,h3.tape.trans hb.tape,h3.output.trans hb.output,Nat.le_trans hb.size h3.size,fun j hj => (h3.block j (by omega) (by omega) nofun).trans (hb.block j hj)⟩⟩
 have KR : Hid (∀ (v : Value) (W : World),Wt (w.heap.size + 1) (enc t).reverse v W → Below w.heap.size w W → Calls Tryz.prog 75 #[v] W fun e w' => e = .returned (.tuple #[]) ∧ w'.cell? ⟨w.heap.size + 1,0,none⟩ = some v ∧ Ty (w.heap.size ≤ ·) (enc t) v w' ∧ Cp v ∧ Below w.heap.size w w') := fun v W hw hb => by
  refine (reverse_any (enc t).reverse (w.heap.size + 1 + 1) v W hw.o).mono fun e w' he => ?_
  obtain ⟨h1,h2,h3⟩ := he; rw [List.reverse_reverse,List.length_reverse] at h2; refine ⟨h1,(World.cell?_of_block (a := ⟨w.heap.size + 1,0,none⟩) (h3.block (w.heap.size + 1) hw.hi (fun e => by have := (hw.o.lt (w.heap.size + 1) e.symm).1; omega))).trans hw.c,Ty_mono (own_ty h2) (fun k h _ => by omega),own_cp h2,hb.grown h3 hb.size (fun k e => by have := (hw.o.lt k e).1; omega)⟩
 have B1 : Hid (Below w.heap.size w ((w.alloc (.cells #[.bool lb,.slice b1 m1 q1,.slice b3 m2 q2] 119)).alloc (.cells #[.slice none 0 0] 144))) := ((Below.refl _ _).alloc (Nat.le_refl _) _).alloc (by simp) _; clear hz hq hiv; dsimp only [v3]; go_enter Tryz.func56,Tryz.ntmps56
 go_wp2_with fail
 refine (KI.out _ B1.out (by simp) (by simp [go_sem]) (by simp [go_sem])).mono (fun e w2 he => ?_)
 obtain ⟨rfl,v,hw,hb⟩ := he; obtain ⟨a3,m3,c3,rfl⟩ := wt_form hw; have KK : Hid _ := KR.out _ w2 hw hb; have hc := hw.c; clear hw hb KR KI B1; go_wp2_with fail
 refine Calls.mono KK.out (fun e w3 he => ?_)
 obtain ⟨rfl,hc3,h4,h5⟩ := he; have HR : Hid _ := And.intro h4 h5; clear h4 h5 KK hc; go_wp2_with fail
 go_ret
 exact ⟨_,rfl,HR.out⟩
end Pk
end Go.Proofs.YtlbdaccmnpcccaaGreatDoor
namespace Go.Proofs.YtlbdaccmnpcccaaGreatDoor
namespace Rs
open Nb Sp Pk Go.RowKit
theorem tagged_any (p : List UInt8) (leaf : Bool) (ap : Option Addr) (cp : Nat) (w : World) (hn : Hid (p.length ≤ 4194300)) (hcp : p.length ≤ cp) (vp : Sp.Vw p ap w) :
  Calls Tryz.prog 77 #[.slice ap p.length cp,.bool leaf] w fun e w' => ∃ v,e = .returned v ∧ Sl (jl (tg p leaf)) v w' ∧ Below w.heap.size w w' := by
 have K : Hid _ := tag_sl p leaf ap cp w hn hcp vp; clear vp hcp; generalize p.length = n at *; go_enter Tryz.func77,Tryz.ntmps77
 go_wp2_with fail
 refine Calls.mono K.out ?_; rintro e w1 ⟨v,rfl,h1,h2⟩; have HZ : Hid (Sl (jl (tg p leaf)) v w1 ∧ Below w.heap.size w w1) := ⟨h1,h2⟩; clear h1 h2 K; go_wp2_with fail
 go_ret
 exact ⟨_,rfl,HZ.out⟩
theorem GL_iv2 {G R : Nat} {w wr : World} {gi : Nat} {kv : Value} {ps : List (List UInt8)} {hs : List Value} (H : GL w gi kv (hs.map tv) wr) (h : Hds ps hs w) (hG : NB G w) (hR : NB R w) (hg : NB gi w) : Iv (fun k => k ≠ G ∧ k ≠ R) wr (.mk true [] (ps.map fun b => .mk false b [])) (.bool true,.slice none 0 0,kv) := by
 refine .mk true [] _ (.slice none 0 0) kv (hs.map tv) (Ty_nil _ _) (by rw [List.length_map,List.length_map,h.l]) (Kx_mono (own_kx H.o) (fun k hk _ => by have := hG.1; have := hR.1; have := hk.1; exact ⟨by omega,by omega⟩)) (fun j hj => ?_)
 rw [List.length_map] at hj; have e1 : (ps.map fun b => It.mk false b []).getD j It.no = .mk false (ps.getD j []) [] := by
  simp [List.getD_eq_getElem?_getD,List.getElem?_map,List.getElem?_eq_getElem hj]
 have e2 : (hs.map tv).getD j n3 = tv (hs.getD j undef) := by
  simp [List.getD_eq_getElem?_getD,List.getElem?_map,List.getElem?_eq_getElem (h.l ▸ hj)]
 rw [e1,e2]; obtain ⟨ao,cap,h1,h2,h3⟩ := h.s j hj; refine iv_textS ⟨ao,cap,h1,h2,fun h0 => ?_⟩
 obtain ⟨g,off,e,hlt,hc⟩ := h3 h0; have n1 : g ≠ G := fun e2 => by subst e2; exact hG.2 _ _ (hc 0 h0)
 have n2 : g ≠ gi := fun e2 => by subst e2; exact hg.2 _ _ (hc 0 h0)
 have n3 : g ≠ R := fun e2 => by subst e2; exact hR.2 _ _ (hc 0 h0)
 exact ⟨g,off,e,⟨n1,n3⟩,Nat.lt_of_lt_of_le hlt H.b.size,fun i hi => (World.cell?_of_block (a := ⟨g,off + i,none⟩) (H.b.block g hlt (fun e3 => by injection e3 with e3; exact n2 e3))).trans (hc i hi)⟩
theorem listof_any (l : List (List UInt8)) (a : Option Addr) (n c : Nat) (w : World) (hn : Hid (n = l.length)) (hz : Hid (n ≤ 1048576)) (h : Hid (Ls l (.slice a n c) w)) :
  Calls Tryz.prog 76 #[.slice a n c] w fun e w' => ∃ v,e = .returned (v3 v) ∧ (∀ G,NB G w → Iv (· ≠ G) w' (.mk true [] (l.map fun b => .mk false b [])) v) ∧ Below w.heap.size w w' ∧ Fm v := by
 obtain ⟨hs,hh,hv⟩ := ls_heads h.out; have HH : Hid (Hds l hs w) := hh; have HV : Hid (Vl hs (.slice a n c) w) := hv; have b0 : Below w.heap.size w (w.alloc (.cells #[.bool false,.slice none 0 0,.slice none 0 0] 119)) := (Below.refl _ _).alloc (Nat.le_refl _) _; have hs1 : (w.alloc (.cells #[.bool false,.slice none 0 0,.slice none 0 0] 119)).heap.size = w.heap.size + 1 := by simp
 have b1 : Below (w.heap.size + 1) (w.alloc (.cells #[.bool false,.slice none 0 0,.slice none 0 0] 119)) ((w.alloc (.cells #[.bool false,.slice none 0 0,.slice none 0 0] 119)).alloc (.cells #[.bool true,.slice none 0 0,.slice none 0 0] 119)) := (Below.refl _ _).alloc (by omega) _; have l0 : Below w.heap.size w ((w.alloc (.cells #[.bool false,.slice none 0 0,.slice none 0 0] 119)).alloc (.cells #[.bool true,.slice none 0 0,.slice none 0 0] 119)) := b0.trans (b1.mono (by omega)); have x0 : B3 w.heap.size ((w.alloc (.cells #[.bool false,.slice none 0 0,.slice none 0 0] 119)).alloc (.cells #[.bool true,.slice none 0 0,.slice none 0 0] 119)) := B3_gb (r := none) (B3_new w) (gb_below (by rw [hs1]; exact b1)) nofun
 have r0 : NB w.heap.size ((w.alloc (.cells #[.bool false,.slice none 0 0,.slice none 0 0] 119)).alloc (.cells #[.bool true,.slice none 0 0,.slice none 0 0] 119)) := NB_below (NB_new w) (by rw [hs1]; exact b1)
 have ln := LN_new (w.alloc (.cells #[.bool false,.slice none 0 0,.slice none 0 0] 119)); have ni := NB_newT (w.alloc (.cells #[.bool false,.slice none 0 0,.slice none 0 0] 119)); rw [hs1] at ln ni; clear b0 b1 hs1 hh hv h; go_enter Tryz.func76,Tryz.ntmps76
 go_wp2_with fail
 generalize (w.alloc (.cells #[.bool false,.slice none 0 0,.slice none 0 0] 119)).alloc (.cells #[.bool true,.slice none 0 0,.slice none 0 0] 119) = W1 at *; obtain ⟨b,eb⟩ : ∃ b,b = w.heap.size := ⟨_,rfl⟩; have EB : Hid (b = w.heap.size) := eb; have L0 : Hid (Below w.heap.size w W1) := l0; have X0 : Hid (B3 b W1) := eb ▸ x0; have R0 : Hid (NB b W1) := eb ▸ r0; have LN0 : Hid (LN (b + 1) W1) := eb ▸ ln; have NI : Hid (NB (b + 1) W1) := eb ▸ ni; rw [← eb]; clear eb l0 x0 r0 ln ni; have HL : Hid (hs.length = n) := by show _ = _; rw [HH.out.l,hn.out]
 go_loopw [9] (fun s wr => ∃ k : Nat,k ≤ n ∧ s = .int .i64 (k : Int) ∧ IA W1 (b + 1) hs k wr) (fun s _ => ((n : Int) - intOf s).toNat)
 case atStart => exact ⟨0,Nat.zero_le _,rfl,⟨_,GL_new LN0.out⟩⟩
 case round =>
  obtain ⟨k,hk,rfl,kv,hG⟩ := hrel; have HG : Hid (GL W1 (b + 1) kv ((hs.take k).map tv) wr) := hG; obtain ⟨ak,nk,ck,rfl⟩ := own_form hG.o; clear hG; by_cases h1 : k < n
  ·have d0 : (k : Int) < (n : Int) := by omega
   have d1 : (0 : Int) ≤ (k : Int) := by omega
   have hw := Nb.stp k (by have := hz.out; show _ ≤ _; omega)
   have hkl : k < l.length := by have := hn.out; omega
   have hkh : k < hs.length := by have := HL.out; omega
   obtain ⟨aV,cV,eV,hV⟩ := HV.out; obtain ⟨gV,oV,eV2,hgV,hcV⟩ := hV (by omega); have ea : a = some ⟨gV,oV,none⟩ := by
    injection eV with e1 _ _
    rw [e1,eV2]
   have hsl := HH.out.s k hkl; have eg : hs.getD k undef = hs[k] := by rw [List.getD_eq_getElem?_getD,List.getElem?_eq_getElem hkh]; rfl
   rw [eg] at hsl; obtain ⟨ax,cx,ex⟩ := Sl_fm hsl; have cw := hcV k hkh; rw [List.getElem?_eq_getElem hkh,ex] at cw; have hgb := HG.out.b; have cr : wr.cell? ⟨gV,oV + k,none⟩ = some (.slice ax (l.getD k []).length cx) := (World.cell?_of_block (a := ⟨gV,oV + k,none⟩) (hgb.block gV (Nat.lt_of_lt_of_le hgV L0.out.size) (fun e => by injection e with e; have := EB.out; omega))).trans ((L0.out.cell (p := ⟨gV,oV + k,none⟩) hgV).trans cw)
   have HTK : Hid ((hs.take (k + 1)).map tv = (hs.take k).map tv ++ [(.bool false,.slice ax (l.getD k []).length cx,.slice none 0 0)]) := by
    show _ = _
    rw [List.take_add_one,List.getElem?_eq_getElem hkh,List.map_append,ex]; rfl
   have HZ : Hid (((hs.take k).map tv).length ≤ 4194304) := by show _ ≤ _; rw [List.length_map,List.length_take]; have := hz.out; omega
   have HK1 : Hid (k < n) := h1; clear hsl eg ex cw hgb eV hV eV2 hgV hcV hkl hkh; subst ea; generalize (l.getD k []).length = mk at *; have c2r := HG.out.c2; have bA : Below wr.heap.size wr (wr.alloc (.cells #[.bool false,.slice ax mk cx,.slice none 0 0] 119)) := (Below.refl _ _).alloc (Nat.le_refl _) _; have hnw := heap_alloc_new wr (.cells #[.bool false,.slice ax mk cx,.slice none 0 0] 119); obtain ⟨kv',w7,hap,⟨ck7,fz7⟩,hI7⟩ := GL_step (g := wr.heap.size) 117 HG.out bA (by simp only [World.cell?,hnw]; rfl) (by simp only [World.cell?,hnw]; rfl) (by simp only [World.cell?,hnw]; rfl) HZ.out
   obtain ⟨ak2,nk2,ck2,rfl⟩ := own_form hI7.o; have HI7 : Hid (GL W1 (b + 1) (.slice ak2 nk2 ck2) ((hs.take (k + 1)).map tv) (w7.setCell ⟨b + 1,2,none⟩ (.slice ak2 nk2 ck2))) := by show GL _ _ _ _ _; rw [HTK.out]; exact hI7
   clear hI7 bA hnw HG HTK HZ; go_upto_region 6 with (at_builtin; refine wpList_apw rfl rfl rfl rfl hap ?_)
   generalize w7.setCell ⟨b + 1,2,none⟩ (.slice ak2 nk2 ck2) = w8' at *; go_wp2_with fail
   have hw := hw.out; go_roundw
   case rel => exact ⟨k + 1,HK1.out,Nb.step_v k _ hw,⟨_,HI7.out⟩⟩
   case measure => exact Nb.msr k n HK1.out _ hw
  ·have hkl : k = n := by omega
   subst hkl; have ex : Hid (hs.take k = hs) := by show _ = _; rw [← HL.out,List.take_length]
   rw [ex.out] at HG; clear ex h1 hk; have g0 := HG.out.c0; have g1 := HG.out.c1; have g2 := HG.out.c2; have hgb := HG.out.b; have xr : B3 b wr := B3_gb X0.out hgb (fun e => by injection e with e; omega)
   have hgb2 := L0.out; have LR : Hid (Below w.heap.size w wr) := ⟨hgb.os.trans hgb2.os,hgb.tape.trans hgb2.tape,hgb.output.trans hgb2.output,Nat.le_trans hgb2.size hgb.size,fun j hj => (hgb.block j (Nat.lt_of_lt_of_le hj hgb2.size) (fun e => by injection e with e; have := EB.out; omega)).trans (hgb2.block j hj)⟩
   have IV0 : Hid (∀ G,NB G w → Iv (fun k => k ≠ G ∧ k ≠ b) wr (.mk true [] (l.map fun b => .mk false b [])) (.bool true,.slice none 0 0,.slice ak nk ck)) := fun G hG => GL_iv2 HG.out ⟨HH.out.l,fun i hi => Sl_below (HH.out.s i hi) hgb2⟩ (NB_below hG hgb2) R0.out NI.out
   clear hgb hgb2 HG; go_upto_region 7 with fail
   go_wp2_with (refine wpList_st3b rfl rfl rfl rfl xr ?_)
   intro w6 g6 b6 z0 z1 z2; have l6 : Hid (Below w.heap.size w w6) := LR.out.trans ⟨g6.os,g6.tape,g6.output,g6.size,fun j hj => g6.block j (by have := LR.out.size; omega) (fun e => by injection e with e; have := EB.out; omega)⟩
   have IV6 : Hid (∀ G,NB G w → Iv (· ≠ G) w6 (.mk true [] (l.map fun b => .mk false b [])) (.bool true,.slice none 0 0,.slice ak nk ck)) := fun G hG =>
    Iv_mono (Iv_gb (IV0.out G hG) g6 (fun k hk e => by injection e with e; exact hk.2 e)) (fun k hk _ => hk.1)
   clear g6 b6 IV0 g0 g1 g2 xr; go_wp2_with fail
   exact bodyPost_ret (resI _ _ _ b 2 _ _ _ rfl rfl z0 z1 z2) rfl ⟨(.bool true,.slice none 0 0,.slice ak nk ck),rfl,IV6.out,l6.out,⟨_,_,_,_,_,_,_,rfl⟩⟩
end Rs
end Go.Proofs.YtlbdaccmnpcccaaGreatDoor
namespace Go.Proofs.YtlbdaccmnpcccaaGreatDoor
namespace Rs
open Nb Sp Pk Go.RowKit
theorem io_none (a1 a2 a3 : Option Addr) (n c1 n2 c2 n3 c3 : Nat) (w : World) :
  Calls Tryz.prog 57 #[.agg #[.int .i64 0,.slice a1 n c1,.slice a2 n2 c2,.slice a3 n3 c3]] w fun e w' => ∃ v,e = .returned (v3 v) ∧ Iv (fun _ => True) w' (.mk false [] []) v ∧ Below w.heap.size w w' ∧ Fm v := by
 have l0 : Below w.heap.size w ((w.alloc (.cells #[.int .i64 0,.slice a1 n c1,.slice a2 n2 c2,.slice a3 n3 c3] 63)).alloc (.cells #[.bool false,.slice none 0 0,.slice none 0 0] 119)) := ((Below.refl _ _).alloc (Nat.le_refl _) _).alloc (by simp) _; have hs1 : (w.alloc (.cells #[.int .i64 0,.slice a1 n c1,.slice a2 n2 c2,.slice a3 n3 c3] 63)).heap.size = w.heap.size + 1 := by simp
 have x0 : B3 (w.heap.size + 1) ((w.alloc (.cells #[.int .i64 0,.slice a1 n c1,.slice a2 n2 c2,.slice a3 n3 c3] 63)).alloc (.cells #[.bool false,.slice none 0 0,.slice none 0 0] 119)) := hs1 ▸ B3_new (w.alloc (.cells #[.int .i64 0,.slice a1 n c1,.slice a2 n2 c2,.slice a3 n3 c3] 63)); have nb0 : NB (w.heap.size + 1) ((w.alloc (.cells #[.int .i64 0,.slice a1 n c1,.slice a2 n2 c2,.slice a3 n3 c3] 63)).alloc (.cells #[.bool false,.slice none 0 0,.slice none 0 0] 119)) := hs1 ▸ NB_new (w.alloc (.cells #[.int .i64 0,.slice a1 n c1,.slice a2 n2 c2,.slice a3 n3 c3] 63)); have HA := heap_alloc_new w (.cells #[.int .i64 0,.slice a1 n c1,.slice a2 n2 c2,.slice a3 n3 c3] 63); have bB : Below (w.heap.size + 1) (w.alloc (.cells #[.int .i64 0,.slice a1 n c1,.slice a2 n2 c2,.slice a3 n3 c3] 63)) ((w.alloc (.cells #[.int .i64 0,.slice a1 n c1,.slice a2 n2 c2,.slice a3 n3 c3] 63)).alloc (.cells #[.bool false,.slice none 0 0,.slice none 0 0] 119)) := (Below.refl _ _).alloc (by omega) _; have q0 : ((w.alloc (.cells #[.int .i64 0,.slice a1 n c1,.slice a2 n2 c2,.slice a3 n3 c3] 63)).alloc (.cells #[.bool false,.slice none 0 0,.slice none 0 0] 119)).cell? ⟨w.heap.size,0,none⟩ = some (.int .i64 0) := (bB.cell (p := ⟨w.heap.size,0,none⟩) (by show w.heap.size < _; omega)).trans (by simp only [World.cell?,HA]; rfl)
 have q1 : ((w.alloc (.cells #[.int .i64 0,.slice a1 n c1,.slice a2 n2 c2,.slice a3 n3 c3] 63)).alloc (.cells #[.bool false,.slice none 0 0,.slice none 0 0] 119)).cell? ⟨w.heap.size,1,none⟩ = some (.slice a1 n c1) := (bB.cell (p := ⟨w.heap.size,1,none⟩) (by show w.heap.size < _; omega)).trans (by simp only [World.cell?,HA]; rfl)
 have q2 : ((w.alloc (.cells #[.int .i64 0,.slice a1 n c1,.slice a2 n2 c2,.slice a3 n3 c3] 63)).alloc (.cells #[.bool false,.slice none 0 0,.slice none 0 0] 119)).cell? ⟨w.heap.size,2,none⟩ = some (.slice a2 n2 c2) := (bB.cell (p := ⟨w.heap.size,2,none⟩) (by show w.heap.size < _; omega)).trans (by simp only [World.cell?,HA]; rfl)
 have q3 : ((w.alloc (.cells #[.int .i64 0,.slice a1 n c1,.slice a2 n2 c2,.slice a3 n3 c3] 63)).alloc (.cells #[.bool false,.slice none 0 0,.slice none 0 0] 119)).cell? ⟨w.heap.size,3,none⟩ = some (.slice a3 n3 c3) := (bB.cell (p := ⟨w.heap.size,3,none⟩) (by show w.heap.size < _; omega)).trans (by simp only [World.cell?,HA]; rfl)
 have hsz : ((w.alloc (.cells #[.int .i64 0,.slice a1 n c1,.slice a2 n2 c2,.slice a3 n3 c3] 63)).alloc (.cells #[.bool false,.slice none 0 0,.slice none 0 0] 119)).heap.size = w.heap.size + 2 := by simp
 clear HA bB hs1; go_enter Tryz.func57,Tryz.ntmps57
 go_upto_region 1 with fail
 generalize ((w.alloc (.cells #[.int .i64 0,.slice a1 n c1,.slice a2 n2 c2,.slice a3 n3 c3] 63)).alloc (.cells #[.bool false,.slice none 0 0,.slice none 0 0] 119)) = W0 at *; obtain ⟨h,eh⟩ : ∃ h,h = w.heap.size := ⟨_,rfl⟩; have EH : Hid (h = w.heap.size) := eh; have L0 : Hid (Below w.heap.size w W0) := l0; have X0 : Hid (B3 (h + 1) W0) := eh ▸ x0; have NB0 : Hid (NB (h + 1) W0) := eh ▸ nb0; have HSZ : Hid (W0.heap.size = h + 2) := by show _ = _; rw [eh]; exact hsz
 rw [← eh] at q0 q1 q2 q3 ⊢; clear eh l0 x0 nb0 hsz; have x5 := X0.out; have l5 := L0.out; go_upto_region 8 with fail
 go_wp2_with (refine wpList_st3b rfl rfl rfl rfl x5 ?_)
 intro w6 g6 b6 z0 z1 z2; have l6 : Hid (Below w.heap.size w w6) := l5.trans ⟨g6.os,g6.tape,g6.output,g6.size,fun j hj => g6.block j (by have := l5.size; omega) (fun e => by injection e with e; have := EH.out; omega)⟩
 have IV6 : Hid (Iv (fun _ => True) w6 (.mk false [] []) (.bool false,.slice none 0 0,.slice none 0 0)) := .mk _ _ _ _ _ [] (Ty_nil _ _) rfl (Kx_nil _ _) (fun j hj => absurd hj (by simp))
 clear g6 b6 l5 x5; go_wp2_with fail
 exact bodyPost_ret (resI _ _ _ (h + 1) 2 _ _ _ rfl rfl z0 z1 z2) rfl ⟨(.bool false,.slice none 0 0,.slice none 0 0),rfl,IV6.out,l6.out,⟨_,_,_,_,_,_,_,rfl⟩⟩
theorem io_fork (a1 a2 a3 : Option Addr) (n c1 n2 c2 n3 c3 : Nat) (w : World) (KO : Hid (∀ (l : List (List UInt8)) (a : Option Addr) (m c : Nat) (wx : World),m = l.length → m ≤ 1048576 → Ls l (.slice a m c) wx → Calls Tryz.prog 76 #[.slice a m c] wx fun e w' => ∃ v,e = .returned (v3 v) ∧ (∀ G,NB G wx → Iv (· ≠ G) w' (.mk true [] (l.map fun b => .mk false b [])) v) ∧ Below wx.heap.size wx w' ∧ Fm v)) (l : List (List UInt8)) (hz : Hid (l.length ≤ 1048576)) (KF : Hid (∀ wx : World,Below w.heap.size w wx → Calls Tryz.prog 78 #[.agg #[.int .i64 3,.slice a1 n c1,.slice a2 n2 c2,.slice a3 n3 c3]] wx fun e w' => ∃ a m c,e = .returned (.slice a m c) ∧ m = l.length ∧ Ls l (.slice a m c) w' ∧ Below wx.heap.size wx w')) :
  Calls Tryz.prog 57 #[.agg #[.int .i64 3,.slice a1 n c1,.slice a2 n2 c2,.slice a3 n3 c3]] w fun e w' => ∃ v,e = .returned (v3 v) ∧ Iv (fun _ => True) w' (.mk true [] (l.map fun b => .mk false b [])) v ∧ Below w.heap.size w w' ∧ Fm v := by
 have l0 : Below w.heap.size w ((w.alloc (.cells #[.int .i64 3,.slice a1 n c1,.slice a2 n2 c2,.slice a3 n3 c3] 63)).alloc (.cells #[.bool false,.slice none 0 0,.slice none 0 0] 119)) := ((Below.refl _ _).alloc (Nat.le_refl _) _).alloc (by simp) _; have hs1 : (w.alloc (.cells #[.int .i64 3,.slice a1 n c1,.slice a2 n2 c2,.slice a3 n3 c3] 63)).heap.size = w.heap.size + 1 := by simp
 have x0 : B3 (w.heap.size + 1) ((w.alloc (.cells #[.int .i64 3,.slice a1 n c1,.slice a2 n2 c2,.slice a3 n3 c3] 63)).alloc (.cells #[.bool false,.slice none 0 0,.slice none 0 0] 119)) := hs1 ▸ B3_new (w.alloc (.cells #[.int .i64 3,.slice a1 n c1,.slice a2 n2 c2,.slice a3 n3 c3] 63)); have nb0 : NB (w.heap.size + 1) ((w.alloc (.cells #[.int .i64 3,.slice a1 n c1,.slice a2 n2 c2,.slice a3 n3 c3] 63)).alloc (.cells #[.bool false,.slice none 0 0,.slice none 0 0] 119)) := hs1 ▸ NB_new (w.alloc (.cells #[.int .i64 3,.slice a1 n c1,.slice a2 n2 c2,.slice a3 n3 c3] 63)); have HA := heap_alloc_new w (.cells #[.int .i64 3,.slice a1 n c1,.slice a2 n2 c2,.slice a3 n3 c3] 63); have bB : Below (w.heap.size + 1) (w.alloc (.cells #[.int .i64 3,.slice a1 n c1,.slice a2 n2 c2,.slice a3 n3 c3] 63)) ((w.alloc (.cells #[.int .i64 3,.slice a1 n c1,.slice a2 n2 c2,.slice a3 n3 c3] 63)).alloc (.cells #[.bool false,.slice none 0 0,.slice none 0 0] 119)) := (Below.refl _ _).alloc (by omega) _; have q0 : ((w.alloc (.cells #[.int .i64 3,.slice a1 n c1,.slice a2 n2 c2,.slice a3 n3 c3] 63)).alloc (.cells #[.bool false,.slice none 0 0,.slice none 0 0] 119)).cell? ⟨w.heap.size,0,none⟩ = some (.int .i64 3) := (bB.cell (p := ⟨w.heap.size,0,none⟩) (by show w.heap.size < _; omega)).trans (by simp only [World.cell?,HA]; rfl)
 have q1 : ((w.alloc (.cells #[.int .i64 3,.slice a1 n c1,.slice a2 n2 c2,.slice a3 n3 c3] 63)).alloc (.cells #[.bool false,.slice none 0 0,.slice none 0 0] 119)).cell? ⟨w.heap.size,1,none⟩ = some (.slice a1 n c1) := (bB.cell (p := ⟨w.heap.size,1,none⟩) (by show w.heap.size < _; omega)).trans (by simp only [World.cell?,HA]; rfl)
 have q2 : ((w.alloc (.cells #[.int .i64 3,.slice a1 n c1,.slice a2 n2 c2,.slice a3 n3 c3] 63)).alloc (.cells #[.bool false,.slice none 0 0,.slice none 0 0] 119)).cell? ⟨w.heap.size,2,none⟩ = some (.slice a2 n2 c2) := (bB.cell (p := ⟨w.heap.size,2,none⟩) (by show w.heap.size < _; omega)).trans (by simp only [World.cell?,HA]; rfl)
 have q3 : ((w.alloc (.cells #[.int .i64 3,.slice a1 n c1,.slice a2 n2 c2,.slice a3 n3 c3] 63)).alloc (.cells #[.bool false,.slice none 0 0,.slice none 0 0] 119)).cell? ⟨w.heap.size,3,none⟩ = some (.slice a3 n3 c3) := (bB.cell (p := ⟨w.heap.size,3,none⟩) (by show w.heap.size < _; omega)).trans (by simp only [World.cell?,HA]; rfl)
 have hsz : ((w.alloc (.cells #[.int .i64 3,.slice a1 n c1,.slice a2 n2 c2,.slice a3 n3 c3] 63)).alloc (.cells #[.bool false,.slice none 0 0,.slice none 0 0] 119)).heap.size = w.heap.size + 2 := by simp
 clear HA bB hs1; go_enter Tryz.func57,Tryz.ntmps57
 go_upto_region 1 with fail
 generalize ((w.alloc (.cells #[.int .i64 3,.slice a1 n c1,.slice a2 n2 c2,.slice a3 n3 c3] 63)).alloc (.cells #[.bool false,.slice none 0 0,.slice none 0 0] 119)) = W0 at *; obtain ⟨h,eh⟩ : ∃ h,h = w.heap.size := ⟨_,rfl⟩; have EH : Hid (h = w.heap.size) := eh; have L0 : Hid (Below w.heap.size w W0) := l0; have X0 : Hid (B3 (h + 1) W0) := eh ▸ x0; have NB0 : Hid (NB (h + 1) W0) := eh ▸ nb0; have HSZ : Hid (W0.heap.size = h + 2) := by show _ = _; rw [eh]; exact hsz
 rw [← eh] at q0 q1 q2 q3 ⊢; clear eh l0 x0 nb0 hsz; have L00 := L0.out; go_wp2_with fail
 refine (KF.out _ L00).mono (fun e w1 he => ?_)
 obtain ⟨a,m,c,rfl,hm,hl,b1⟩ := he; have l1 : Below w.heap.size w w1 := L00.trans (b1.mono L00.size); have x1 : B3 (h + 1) w1 := B3_gb (r := none) X0.out (gb_below b1) nofun; have n1 := NB_below NB0.out b1; have KK : Hid _ := KO.out l a m c w1 hm (by rw [hm]; exact hz.out) hl
 clear b1 KF L00 hl hm q0 q1 q2 q3; go_wp2_with fail
 refine Calls.mono KK.out (fun e w2 he => ?_)
 obtain ⟨v,rfl,iv,b2,lb,d1,m1,c1,d2,m2,c2,rfl⟩ := he; have x5 : B3 (h + 1) w2 := B3_gb (r := none) x1 (gb_below b2) nofun; have l5 : Below w.heap.size w w2 := l1.trans (b2.mono l1.size); have IV2 := iv _ n1; clear iv b2 x1 l1 KK n1; dsimp only [v3]; go_wp2_with (refine wpList_st3b rfl rfl rfl rfl x5 ?_)
 intro w6 g6 b6 z0 z1 z2; have l6 : Hid (Below w.heap.size w w6) := l5.trans ⟨g6.os,g6.tape,g6.output,g6.size,fun j hj => g6.block j (by have := l5.size; omega) (fun e => by injection e with e; have := EH.out; omega)⟩
 have IV6 : Hid (Iv (fun _ => True) w6 (.mk true [] (l.map fun b => .mk false b [])) (.bool lb,.slice d1 m1 c1,.slice d2 m2 c2)) := Iv_mono (Iv_gb IV2 g6 (fun k hk e => by injection e with e; exact hk e)) (fun _ _ _ => trivial)
 clear g6 b6 l5 x5; go_wp2_with fail
 exact bodyPost_ret (resI _ _ _ (h + 1) 2 _ _ _ rfl rfl z0 z1 z2) rfl ⟨(.bool lb,.slice d1 m1 c1,.slice d2 m2 c2),rfl,IV6.out,l6.out,⟨_,_,_,_,_,_,_,rfl⟩⟩
theorem ls_two {b c : List UInt8} {u v : Value} {W : World} {T : TypeId} (hb : Sl b u W) (hc : Sl c v W) : Ls [b,c] (.slice (some ⟨W.heap.size,0,none⟩) 2 2) (W.alloc (.cells #[u,v] T)) := by
 have HA := heap_alloc_new W (.cells #[u,v] T); have bA : Below W.heap.size W (W.alloc (.cells #[u,v] T)) := (Below.refl _ _).alloc (Nat.le_refl _) _; refine ⟨_,2,rfl,fun _ => ⟨W.heap.size,0,rfl,by simp,fun i hi => ?_⟩⟩
 have hi2 : i = 0 ∨ i = 1 := by simp at hi; omega
 rcases hi2 with rfl | rfl
 ·exact ⟨u,by simp only [World.cell?,HA]; rfl,Sl_below hb bA⟩
 ·exact ⟨v,by simp only [World.cell?,HA]; rfl,Sl_below hc bA⟩
theorem io_leaf (a1 a2 a3 : Option Addr) (n c1 n2 c2 n3 c3 : Nat) (w : World) (KO : Hid (∀ (l : List (List UInt8)) (a : Option Addr) (m c : Nat) (wx : World),m = l.length → m ≤ 1048576 → Ls l (.slice a m c) wx → Calls Tryz.prog 76 #[.slice a m c] wx fun e w' => ∃ v,e = .returned (v3 v) ∧ (∀ G,NB G wx → Iv (· ≠ G) w' (.mk true [] (l.map fun b => .mk false b [])) v) ∧ Below wx.heap.size wx w' ∧ Fm v)) (T u : List UInt8) (KN : Hid (∀ wx : World,Below w.heap.size w wx → Calls Tryz.prog 77 #[.slice a1 n c1,.bool true] wx fun e w' => ∃ v,e = .returned v ∧ Sl T v w' ∧ Below wx.heap.size wx w')) (hu : Hid (∀ W,Below w.heap.size w W → Sl u (.slice a2 n2 c2) W)) :
  Calls Tryz.prog 57 #[.agg #[.int .i64 1,.slice a1 n c1,.slice a2 n2 c2,.slice a3 n3 c3]] w fun e w' => ∃ v,e = .returned (v3 v) ∧ Iv (fun _ => True) w' (.mk true [] [.mk false T [],.mk false u []]) v ∧ Below w.heap.size w w' ∧ Fm v := by
 have l0 : Below w.heap.size w ((w.alloc (.cells #[.int .i64 1,.slice a1 n c1,.slice a2 n2 c2,.slice a3 n3 c3] 63)).alloc (.cells #[.bool false,.slice none 0 0,.slice none 0 0] 119)) := ((Below.refl _ _).alloc (Nat.le_refl _) _).alloc (by simp) _; have hs1 : (w.alloc (.cells #[.int .i64 1,.slice a1 n c1,.slice a2 n2 c2,.slice a3 n3 c3] 63)).heap.size = w.heap.size + 1 := by simp
 have x0 : B3 (w.heap.size + 1) ((w.alloc (.cells #[.int .i64 1,.slice a1 n c1,.slice a2 n2 c2,.slice a3 n3 c3] 63)).alloc (.cells #[.bool false,.slice none 0 0,.slice none 0 0] 119)) := hs1 ▸ B3_new (w.alloc (.cells #[.int .i64 1,.slice a1 n c1,.slice a2 n2 c2,.slice a3 n3 c3] 63)); have nb0 : NB (w.heap.size + 1) ((w.alloc (.cells #[.int .i64 1,.slice a1 n c1,.slice a2 n2 c2,.slice a3 n3 c3] 63)).alloc (.cells #[.bool false,.slice none 0 0,.slice none 0 0] 119)) := hs1 ▸ NB_new (w.alloc (.cells #[.int .i64 1,.slice a1 n c1,.slice a2 n2 c2,.slice a3 n3 c3] 63)); have HA := heap_alloc_new w (.cells #[.int .i64 1,.slice a1 n c1,.slice a2 n2 c2,.slice a3 n3 c3] 63); have bB : Below (w.heap.size + 1) (w.alloc (.cells #[.int .i64 1,.slice a1 n c1,.slice a2 n2 c2,.slice a3 n3 c3] 63)) ((w.alloc (.cells #[.int .i64 1,.slice a1 n c1,.slice a2 n2 c2,.slice a3 n3 c3] 63)).alloc (.cells #[.bool false,.slice none 0 0,.slice none 0 0] 119)) := (Below.refl _ _).alloc (by omega) _; have q0 : ((w.alloc (.cells #[.int .i64 1,.slice a1 n c1,.slice a2 n2 c2,.slice a3 n3 c3] 63)).alloc (.cells #[.bool false,.slice none 0 0,.slice none 0 0] 119)).cell? ⟨w.heap.size,0,none⟩ = some (.int .i64 1) := (bB.cell (p := ⟨w.heap.size,0,none⟩) (by show w.heap.size < _; omega)).trans (by simp only [World.cell?,HA]; rfl)
 have q1 : ((w.alloc (.cells #[.int .i64 1,.slice a1 n c1,.slice a2 n2 c2,.slice a3 n3 c3] 63)).alloc (.cells #[.bool false,.slice none 0 0,.slice none 0 0] 119)).cell? ⟨w.heap.size,1,none⟩ = some (.slice a1 n c1) := (bB.cell (p := ⟨w.heap.size,1,none⟩) (by show w.heap.size < _; omega)).trans (by simp only [World.cell?,HA]; rfl)
 have q2 : ((w.alloc (.cells #[.int .i64 1,.slice a1 n c1,.slice a2 n2 c2,.slice a3 n3 c3] 63)).alloc (.cells #[.bool false,.slice none 0 0,.slice none 0 0] 119)).cell? ⟨w.heap.size,2,none⟩ = some (.slice a2 n2 c2) := (bB.cell (p := ⟨w.heap.size,2,none⟩) (by show w.heap.size < _; omega)).trans (by simp only [World.cell?,HA]; rfl)
 have q3 : ((w.alloc (.cells #[.int .i64 1,.slice a1 n c1,.slice a2 n2 c2,.slice a3 n3 c3] 63)).alloc (.cells #[.bool false,.slice none 0 0,.slice none 0 0] 119)).cell? ⟨w.heap.size,3,none⟩ = some (.slice a3 n3 c3) := (bB.cell (p := ⟨w.heap.size,3,none⟩) (by show w.heap.size < _; omega)).trans (by simp only [World.cell?,HA]; rfl)
 have hsz : ((w.alloc (.cells #[.int .i64 1,.slice a1 n c1,.slice a2 n2 c2,.slice a3 n3 c3] 63)).alloc (.cells #[.bool false,.slice none 0 0,.slice none 0 0] 119)).heap.size = w.heap.size + 2 := by simp
 clear HA bB hs1; go_enter Tryz.func57,Tryz.ntmps57
 go_upto_region 1 with fail
 generalize ((w.alloc (.cells #[.int .i64 1,.slice a1 n c1,.slice a2 n2 c2,.slice a3 n3 c3] 63)).alloc (.cells #[.bool false,.slice none 0 0,.slice none 0 0] 119)) = W0 at *; obtain ⟨h,eh⟩ : ∃ h,h = w.heap.size := ⟨_,rfl⟩; have EH : Hid (h = w.heap.size) := eh; have L0 : Hid (Below w.heap.size w W0) := l0; have X0 : Hid (B3 (h + 1) W0) := eh ▸ x0; have NB0 : Hid (NB (h + 1) W0) := eh ▸ nb0; have HSZ : Hid (W0.heap.size = h + 2) := by show _ = _; rw [eh]; exact hsz
 rw [← eh] at q0 q1 q2 q3 ⊢; clear eh l0 x0 nb0 hsz; have hL : RG.Lasts (fun wx => Below W0.heap.size W0 wx) (fun _ v wx => ∃ a m c,v = .slice a m c ∧ Sl T v wx) := ⟨fun _ _ h hb => h.trans (hb.mono h.size),fun _ _ _ _ h hb => by
  obtain ⟨a,m,c,h1,h2⟩ := h; exact ⟨a,m,c,h1,Sl_below h2 hb⟩⟩
 have Q1 : Hid (W0.cell? ⟨h,1,none⟩ = some (.slice a1 n c1)) := q1; have Q2 : Hid (W0.cell? ⟨h,2,none⟩ = some (.slice a2 n2 c2)) := q2; have Q3 : Hid (W0.cell? ⟨h,3,none⟩ = some (.slice a3 n3 c3)) := q3; go_upto_region 3 with fail
 refine RG.wp_region_gen (fun wx => Below W0.heap.size W0 wx) (fun _ v wx => ∃ a m c,v = .slice a m c ∧ Sl T v wx) (fun _ _ => True) [0,0,1,0,0,2,2,2] (by kernel_rfl) (by kernel_rfl) ((Below.refl _ _).drew) ?_
 dsimp only [List.toList_toArray]; refine RG.go1 (v := ?_) (a' := ?_) hL (by decide) rfl ?_ ?_ ?_; rotate_left 2
 ·intro K wx hS hK; go_simp; exact hK _ (Below.refl _ _)
 ·simp only [Act.put,zA,zB,zC]; rfl
 refine RG.go1 (v := ?_) (a' := ?_) hL (by decide) rfl ?_ ?_ ?_; rotate_left 2
 ·intro K wx hS hK; have z1 := (hS.cell (p := ⟨h,1,none⟩) (by have := HSZ.out; show h < _; omega)).trans Q1.out
  go_simp; exact hK _ (Below.refl _ _)
 ·simp only [Act.put,zA,zB,zC]; rfl
 refine RG.goN hL rfl ?_ ?_
 ·intro K wx hS hK; go_simp; refine (KN.out _ (L0.out.trans (hS.mono L0.out.size))).mono (fun e w2 he => ?_)
  obtain ⟨v,rfl,h1,h2⟩ := he; obtain ⟨at1,ct1,rfl⟩ := Sl_fm h1; refine ⟨_,rfl,?_⟩; exact hK _ _ h2 ⟨_,_,_,rfl,h1⟩ (fun _ _ _ => ⟨trivial,trivial⟩)
 refine RG.go1 (v := ?_) (a' := ?_) hL (by decide) rfl ?_ ?_ ?_; rotate_left 2
 ·intro K wx hS hK; go_simp; exact hK _ (Below.refl _ _)
 ·simp only [Act.put,zA,zB,zC]; rfl
 refine RG.go1 (v := ?_) (a' := ?_) hL (by decide) rfl ?_ ?_ ?_; rotate_left 2
 ·intro K wx hS hK; have z2 := (hS.cell (p := ⟨h,2,none⟩) (by have := HSZ.out; show h < _; omega)).trans Q2.out
  go_simp; exact hK _ (Below.refl _ _)
 ·simp only [Act.put,zA,zB,zC]; rfl
 iterate 3
  refine RG.goT ?_
 refine RG.go_end ?_; intro U w9 m9 y9 x9; simp +decide (maxSteps := 1000000) only [RG.tl,RG.putN,if_true,if_false,Act.put,List.setIfInBounds_toArray,List.set_cons_succ,List.set_cons_zero,Nat.reduceAdd]
 obtain ⟨at1,tn,ct1,e1,h1⟩ := y9 2 rfl; rw [e1] at h1 ⊢; have l9 : Below w.heap.size w w9 := L0.out.trans (m9.mono L0.out.size); have x9' : B3 (h + 1) w9 := B3_gb (r := none) X0.out (gb_below m9) nofun; have n9 := NB_below NB0.out m9; have s2 : Sl u (.slice a2 n2 c2) w9 := hu.out _ l9; have bA : Below w9.heap.size w9 (w9.alloc (.cells #[.slice at1 tn ct1,.slice a2 n2 c2] 22)) := (Below.refl _ _).alloc (Nat.le_refl _) _; have lsA : Ls [T,u] (.slice (some ⟨w9.heap.size,0,none⟩) 2 2) (w9.alloc (.cells #[.slice at1 tn ct1,.slice a2 n2 c2] 22)) := ls_two h1 s2; have KK : Hid _ := KO.out [T,u] (some ⟨w9.heap.size,0,none⟩) 2 2 _ rfl (by decide) lsA; have nA := NB_below n9 bA; have xA : B3 (h + 1) (w9.alloc (.cells #[.slice at1 tn ct1,.slice a2 n2 c2] 22)) := B3_gb (r := none) x9' (gb_below bA) nofun; have lA : Below w.heap.size w (w9.alloc (.cells #[.slice at1 tn ct1,.slice a2 n2 c2] 22)) := l9.trans (bA.mono l9.size); clear x9 y9 l9 x9' m9 hL h1 s2 bA lsA n9 e1 Q1 Q2 Q3 KN; go_wp2_with fail
 refine Calls.mono KK.out (fun e w2 he => ?_)
 obtain ⟨v,rfl,iv,b2,lb,d1,m1,c1,d2,m2,c2,rfl⟩ := he; have x5 : B3 (h + 1) w2 := B3_gb (r := none) xA (gb_below b2) nofun; have l5 : Below w.heap.size w w2 := lA.trans (b2.mono lA.size); have IV2 := iv _ nA; clear iv b2 xA lA KK nA; dsimp only [v3]; go_wp2_with (refine wpList_st3b rfl rfl rfl rfl x5 ?_)
 intro w6 g6 b6 z0 z1 z2; have l6 : Hid (Below w.heap.size w w6) := l5.trans ⟨g6.os,g6.tape,g6.output,g6.size,fun j hj => g6.block j (by have := l5.size; omega) (fun e => by injection e with e; have := EH.out; omega)⟩
 have IV6 : Hid (Iv (fun _ => True) w6 (.mk true [] [.mk false T [],.mk false u []]) (.bool lb,.slice d1 m1 c1,.slice d2 m2 c2)) := Iv_mono (Iv_gb IV2 g6 (fun k hk e => by injection e with e; exact hk e)) (fun _ _ _ => trivial)
 clear g6 b6 l5 x5; go_wp2_with fail
 exact bodyPost_ret (resI _ _ _ (h + 1) 2 _ _ _ rfl rfl z0 z1 z2) rfl ⟨(.bool lb,.slice d1 m1 c1,.slice d2 m2 c2),rfl,IV6.out,l6.out,⟨_,_,_,_,_,_,_,rfl⟩⟩
theorem io_road (a1 a2 a3 : Option Addr) (n c1 n2 c2 n3 c3 : Nat) (w : World) (KO : Hid (∀ (l : List (List UInt8)) (a : Option Addr) (m c : Nat) (wx : World),m = l.length → m ≤ 1048576 → Ls l (.slice a m c) wx → Calls Tryz.prog 76 #[.slice a m c] wx fun e w' => ∃ v,e = .returned (v3 v) ∧ (∀ G,NB G wx → Iv (· ≠ G) w' (.mk true [] (l.map fun b => .mk false b [])) v) ∧ Below wx.heap.size wx w' ∧ Fm v)) (T u : List UInt8) (KN : Hid (∀ wx : World,Below w.heap.size w wx → Calls Tryz.prog 77 #[.slice a1 n c1,.bool false] wx fun e w' => ∃ v,e = .returned v ∧ Sl T v w' ∧ Below wx.heap.size wx w')) (g off ci : Nat) (ai : Option Addr) (ha3 : Hid (a3 = some ⟨g,off,none⟩)) (h3 : Hid (n3 = 1)) (hc0 : Hid (g < w.heap.size ∧ w.cell? ⟨g,off,none⟩ = some (.slice ai 32 ci))) (hu : Hid (∀ W,Below w.heap.size w W → Sl u (.slice ai 32 ci) W)) :
  Calls Tryz.prog 57 #[.agg #[.int .i64 2,.slice a1 n c1,.slice a2 n2 c2,.slice a3 n3 c3]] w fun e w' => ∃ v,e = .returned (v3 v) ∧ Iv (fun _ => True) w' (.mk true [] [.mk false T [],.mk false u []]) v ∧ Below w.heap.size w w' ∧ Fm v := by
 have l0 : Below w.heap.size w ((w.alloc (.cells #[.int .i64 2,.slice a1 n c1,.slice a2 n2 c2,.slice a3 n3 c3] 63)).alloc (.cells #[.bool false,.slice none 0 0,.slice none 0 0] 119)) := ((Below.refl _ _).alloc (Nat.le_refl _) _).alloc (by simp) _; have hs1 : (w.alloc (.cells #[.int .i64 2,.slice a1 n c1,.slice a2 n2 c2,.slice a3 n3 c3] 63)).heap.size = w.heap.size + 1 := by simp
 have x0 : B3 (w.heap.size + 1) ((w.alloc (.cells #[.int .i64 2,.slice a1 n c1,.slice a2 n2 c2,.slice a3 n3 c3] 63)).alloc (.cells #[.bool false,.slice none 0 0,.slice none 0 0] 119)) := hs1 ▸ B3_new (w.alloc (.cells #[.int .i64 2,.slice a1 n c1,.slice a2 n2 c2,.slice a3 n3 c3] 63)); have nb0 : NB (w.heap.size + 1) ((w.alloc (.cells #[.int .i64 2,.slice a1 n c1,.slice a2 n2 c2,.slice a3 n3 c3] 63)).alloc (.cells #[.bool false,.slice none 0 0,.slice none 0 0] 119)) := hs1 ▸ NB_new (w.alloc (.cells #[.int .i64 2,.slice a1 n c1,.slice a2 n2 c2,.slice a3 n3 c3] 63)); have HA := heap_alloc_new w (.cells #[.int .i64 2,.slice a1 n c1,.slice a2 n2 c2,.slice a3 n3 c3] 63); have bB : Below (w.heap.size + 1) (w.alloc (.cells #[.int .i64 2,.slice a1 n c1,.slice a2 n2 c2,.slice a3 n3 c3] 63)) ((w.alloc (.cells #[.int .i64 2,.slice a1 n c1,.slice a2 n2 c2,.slice a3 n3 c3] 63)).alloc (.cells #[.bool false,.slice none 0 0,.slice none 0 0] 119)) := (Below.refl _ _).alloc (by omega) _; have q0 : ((w.alloc (.cells #[.int .i64 2,.slice a1 n c1,.slice a2 n2 c2,.slice a3 n3 c3] 63)).alloc (.cells #[.bool false,.slice none 0 0,.slice none 0 0] 119)).cell? ⟨w.heap.size,0,none⟩ = some (.int .i64 2) := (bB.cell (p := ⟨w.heap.size,0,none⟩) (by show w.heap.size < _; omega)).trans (by simp only [World.cell?,HA]; rfl)
 have q1 : ((w.alloc (.cells #[.int .i64 2,.slice a1 n c1,.slice a2 n2 c2,.slice a3 n3 c3] 63)).alloc (.cells #[.bool false,.slice none 0 0,.slice none 0 0] 119)).cell? ⟨w.heap.size,1,none⟩ = some (.slice a1 n c1) := (bB.cell (p := ⟨w.heap.size,1,none⟩) (by show w.heap.size < _; omega)).trans (by simp only [World.cell?,HA]; rfl)
 have q2 : ((w.alloc (.cells #[.int .i64 2,.slice a1 n c1,.slice a2 n2 c2,.slice a3 n3 c3] 63)).alloc (.cells #[.bool false,.slice none 0 0,.slice none 0 0] 119)).cell? ⟨w.heap.size,2,none⟩ = some (.slice a2 n2 c2) := (bB.cell (p := ⟨w.heap.size,2,none⟩) (by show w.heap.size < _; omega)).trans (by simp only [World.cell?,HA]; rfl)
 have q3 : ((w.alloc (.cells #[.int .i64 2,.slice a1 n c1,.slice a2 n2 c2,.slice a3 n3 c3] 63)).alloc (.cells #[.bool false,.slice none 0 0,.slice none 0 0] 119)).cell? ⟨w.heap.size,3,none⟩ = some (.slice a3 n3 c3) := (bB.cell (p := ⟨w.heap.size,3,none⟩) (by show w.heap.size < _; omega)).trans (by simp only [World.cell?,HA]; rfl)
 have hsz : ((w.alloc (.cells #[.int .i64 2,.slice a1 n c1,.slice a2 n2 c2,.slice a3 n3 c3] 63)).alloc (.cells #[.bool false,.slice none 0 0,.slice none 0 0] 119)).heap.size = w.heap.size + 2 := by simp
 clear HA bB hs1; go_enter Tryz.func57,Tryz.ntmps57
 go_upto_region 1 with fail
 generalize ((w.alloc (.cells #[.int .i64 2,.slice a1 n c1,.slice a2 n2 c2,.slice a3 n3 c3] 63)).alloc (.cells #[.bool false,.slice none 0 0,.slice none 0 0] 119)) = W0 at *; obtain ⟨h,eh⟩ : ∃ h,h = w.heap.size := ⟨_,rfl⟩; have EH : Hid (h = w.heap.size) := eh; have L0 : Hid (Below w.heap.size w W0) := l0; have X0 : Hid (B3 (h + 1) W0) := eh ▸ x0; have NB0 : Hid (NB (h + 1) W0) := eh ▸ nb0; have HSZ : Hid (W0.heap.size = h + 2) := by show _ = _; rw [eh]; exact hsz
 rw [← eh] at q0 q1 q2 q3 ⊢; clear eh l0 x0 nb0 hsz; obtain rfl := h3.out; obtain rfl := ha3.out; have C0 : Hid (g < W0.heap.size ∧ W0.cell? ⟨g,off,none⟩ = some (.slice ai 32 ci)) := ⟨Nat.lt_of_lt_of_le hc0.out.1 L0.out.size,(L0.out.cell (p := ⟨g,off,none⟩) hc0.out.1).trans hc0.out.2⟩; have hL : RG.Lasts (fun wx => Below W0.heap.size W0 wx) (fun _ v wx => ∃ a m c,v = .slice a m c ∧ Sl T v wx) := ⟨fun _ _ h hb => h.trans (hb.mono h.size),fun _ _ _ _ h hb => by
  obtain ⟨a,m,c,h1,h2⟩ := h; exact ⟨a,m,c,h1,Sl_below h2 hb⟩⟩
 have Q1 : Hid (W0.cell? ⟨h,1,none⟩ = some (.slice a1 n c1)) := q1; have Q2 : Hid (W0.cell? ⟨h,2,none⟩ = some (.slice a2 n2 c2)) := q2; have Q3 : Hid (W0.cell? ⟨h,3,none⟩ = some (.slice (some ⟨g,off,none⟩) 1 c3)) := q3; go_upto_region 5 with fail
 refine RG.wp_region_gen (fun wx => Below W0.heap.size W0 wx) (fun _ v wx => ∃ a m c,v = .slice a m c ∧ Sl T v wx) (fun _ _ => True) [0,0,1,0,0,0,0,2,2,2] (by kernel_rfl) (by kernel_rfl) ((Below.refl _ _).drew) ?_
 dsimp only [List.toList_toArray]; refine RG.go1 (v := ?_) (a' := ?_) hL (by decide) rfl ?_ ?_ ?_; rotate_left 2
 ·intro K wx hS hK; go_simp; exact hK _ (Below.refl _ _)
 ·simp only [Act.put,zA,zB,zC]; rfl
 refine RG.go1 (v := ?_) (a' := ?_) hL (by decide) rfl ?_ ?_ ?_; rotate_left 2
 ·intro K wx hS hK; have z1 := (hS.cell (p := ⟨h,1,none⟩) (by have := HSZ.out; show h < _; omega)).trans Q1.out
  go_simp; exact hK _ (Below.refl _ _)
 ·simp only [Act.put,zA,zB,zC]; rfl
 refine RG.goN hL rfl ?_ ?_
 ·intro K wx hS hK; go_simp; refine (KN.out _ (L0.out.trans (hS.mono L0.out.size))).mono (fun e w2 he => ?_)
  obtain ⟨v,rfl,h1,h2⟩ := he; obtain ⟨at1,ct1,rfl⟩ := Sl_fm h1; refine ⟨_,rfl,?_⟩; exact hK _ _ h2 ⟨_,_,_,rfl,h1⟩ (fun _ _ _ => ⟨trivial,trivial⟩)
 refine RG.go1 (v := ?_) (a' := ?_) hL (by decide) rfl ?_ ?_ ?_; rotate_left 2
 ·intro K wx hS hK; go_simp; exact hK _ (Below.refl _ _)
 ·simp only [Act.put,zA,zB,zC]; rfl
 refine RG.go1 (v := ?_) (a' := ?_) hL (by decide) rfl ?_ ?_ ?_; rotate_left 2
 ·intro K wx hS hK; have z3 := (hS.cell (p := ⟨h,3,none⟩) (by have := HSZ.out; show h < _; omega)).trans Q3.out
  go_simp; exact hK _ (Below.refl _ _)
 ·simp only [Act.put,zA,zB,zC]; rfl
 refine RG.go1 (v := ?_) (a' := ?_) hL (by decide) rfl ?_ ?_ ?_; rotate_left 2
 ·intro K wx hS hK; go_simp; exact hK _ (Below.refl _ _)
 ·simp only [Act.put,zA,zB,zC]; rfl
 refine RG.go1 (v := ?_) (a' := ?_) hL (by decide) rfl ?_ ?_ ?_; rotate_left 2
 ·intro K wx hS hK; have z6 := (hS.cell (p := ⟨g,off,none⟩) C0.out.1).trans C0.out.2; go_simp; exact hK _ (Below.refl _ _)
 ·simp only [Act.put,zA,zB,zC]; rfl
 iterate 3
  refine RG.goT ?_
 refine RG.go_end ?_; intro U w9 m9 y9 x9; simp +decide (maxSteps := 1000000) only [RG.tl,RG.putN,if_true,if_false,Act.put,List.setIfInBounds_toArray,List.set_cons_succ,List.set_cons_zero,Nat.reduceAdd]
 obtain ⟨at1,tn,ct1,e1,h1⟩ := y9 2 rfl; rw [e1] at h1 ⊢; have l9 : Below w.heap.size w w9 := L0.out.trans (m9.mono L0.out.size); have x9' : B3 (h + 1) w9 := B3_gb (r := none) X0.out (gb_below m9) nofun; have n9 := NB_below NB0.out m9; have s2 : Sl u (.slice ai 32 ci) w9 := hu.out _ l9; have bA : Below w9.heap.size w9 (w9.alloc (.cells #[.slice at1 tn ct1,.slice ai 32 ci] 22)) := (Below.refl _ _).alloc (Nat.le_refl _) _; have lsA : Ls [T,u] (.slice (some ⟨w9.heap.size,0,none⟩) 2 2) (w9.alloc (.cells #[.slice at1 tn ct1,.slice ai 32 ci] 22)) := ls_two h1 s2; have KK : Hid _ := KO.out [T,u] (some ⟨w9.heap.size,0,none⟩) 2 2 _ rfl (by decide) lsA; have nA := NB_below n9 bA; have xA : B3 (h + 1) (w9.alloc (.cells #[.slice at1 tn ct1,.slice ai 32 ci] 22)) := B3_gb (r := none) x9' (gb_below bA) nofun; have lA : Below w.heap.size w (w9.alloc (.cells #[.slice at1 tn ct1,.slice ai 32 ci] 22)) := l9.trans (bA.mono l9.size); clear x9 y9 l9 x9' m9 hL h1 s2 bA lsA n9 e1 Q1 Q2 Q3 KN; go_wp2_with fail
 refine Calls.mono KK.out (fun e w2 he => ?_)
 obtain ⟨v,rfl,iv,b2,lb,d1,m1,c1,d2,m2,c2,rfl⟩ := he; have x5 : B3 (h + 1) w2 := B3_gb (r := none) xA (gb_below b2) nofun; have l5 : Below w.heap.size w w2 := lA.trans (b2.mono lA.size); have IV2 := iv _ nA; clear iv b2 xA lA KK nA; dsimp only [v3]; go_wp2_with (refine wpList_st3b rfl rfl rfl rfl x5 ?_)
 intro w6 g6 b6 z0 z1 z2; have l6 : Hid (Below w.heap.size w w6) := l5.trans ⟨g6.os,g6.tape,g6.output,g6.size,fun j hj => g6.block j (by have := l5.size; omega) (fun e => by injection e with e; have := EH.out; omega)⟩
 have IV6 : Hid (Iv (fun _ => True) w6 (.mk true [] [.mk false T [],.mk false u []]) (.bool lb,.slice d1 m1 c1,.slice d2 m2 c2)) := Iv_mono (Iv_gb IV2 g6 (fun k hk e => by injection e with e; exact hk e)) (fun _ _ _ => trivial)
 clear g6 b6 l5 x5; go_wp2_with fail
 exact bodyPost_ret (resI _ _ _ (h + 1) 2 _ _ _ rfl rfl z0 z1 z2) rfl ⟨(.bool lb,.slice d1 m1 c1,.slice d2 m2 c2),rfl,IV6.out,l6.out,⟨_,_,_,_,_,_,_,rfl⟩⟩
theorem itemof_any (s : Shp) (x : V4) (w : World) (h : Sh s x w) (hs : isS s = true) (hp : s.2.1.length ≤ 1048576) :
  Calls Tryz.prog 57 #[v4 x] w fun e w' => ∃ v,e = .returned (v3 v) ∧ Iv (fun _ => True) w' (itS s) v ∧ Below w.heap.size w w' ∧ Fm v := by
 obtain ⟨a1,c1,a2,c2,a3,c3,rfl⟩ := Sh_form h; obtain ⟨kk,p,v,ks⟩ := s; dsimp only at hp; have KO : Hid (∀ (l : List (List UInt8)) (a : Option Addr) (m c : Nat) (wx : World),m = l.length → m ≤ 1048576 → Ls l (.slice a m c) wx → Calls Tryz.prog 76 #[.slice a m c] wx fun e w' => ∃ v,e = .returned (v3 v) ∧ (∀ G,NB G wx → Iv (· ≠ G) w' (.mk true [] (l.map fun b => .mk false b [])) v) ∧ Below wx.heap.size wx w' ∧ Fm v) := fun l a m c wx h1 h2 h3 => listof_any l a m c wx h1 h2 h3
 have KN : ∀ leaf,Hid (∀ wx : World,Below w.heap.size w wx → Calls Tryz.prog 77 #[.slice a1 p.length c1,.bool leaf] wx fun e w' => ∃ v,e = .returned v ∧ Sl (jl (tg p leaf)) v w' ∧ Below wx.heap.size wx w') := fun leaf wx hb => by
  obtain ⟨ao,cap,e,hc,hv⟩ := (Sh_below h hb).2.1; injection e with e1 _ e3
  exact tagged_any p leaf a1 c1 wx (by show _ ≤ _; omega) (by rw [e3]; exact hc) (by rw [e1]; exact hv)
 have hu : Hid (∀ W,Below w.heap.size w W → Sl v (.slice a2 v.length c2) W) := fun W hb => (Sh_below h hb).2.2.1
 by_cases k0 : kk = 0
 ·subst k0; exact io_none a1 a2 a3 _ c1 _ c2 _ c3 w
 by_cases k1 : kk = 1
 ·subst k1; exact io_leaf a1 a2 a3 _ c1 _ c2 _ c3 w KO (jl (tg p true)) v (KN true) hu
 by_cases k2 : kk = 2
 ·subst k2; have e0 : isS (2,p,v,ks) = (decide (0 < p.length) && (pb p && (decide (ks.length = 1) && decide ((ks.getD 0 []).length = 32)))) := rfl; rw [e0] at hs; simp only [Bool.and_eq_true,decide_eq_true_iff] at hs; obtain ⟨_,_,h3,hm⟩ := hs; obtain ⟨ao,cap,e2,hL⟩ := h.2.2.2; dsimp only at e2 hL; obtain ⟨g,off,rfl,hg,hc⟩ := hL (by omega); obtain ⟨vi,q1,q2⟩ := hc 0 (by omega); obtain ⟨ai,ci,rfl⟩ := Sl_fm q2; injection e2 with e3 _ _
  rw [hm] at q1 q2; exact io_road a1 a2 a3 _ c1 _ c2 _ c3 w KO (jl (tg p false)) (ks.getD 0 []) (KN false) g off ci ai e3 h3 ⟨hg,q1⟩ (fun W hb => Sl_below q2 hb)
 by_cases k3 : kk = 3
 ·subst k3; have e0 : isS (3,p,v,ks) = (decide (ks.length = 16) && (decide (v.length ≤ 1024) && (ks.all sm && decide (2 ≤ np (ks ++ [v]))))) := rfl; rw [e0] at hs; simp only [Bool.and_eq_true,decide_eq_true_iff] at hs; exact io_fork a1 a2 a3 _ c1 _ c2 _ c3 w KO (ks ++ [v]) (by show _ ≤ _; rw [List.length_append,hs.1,List.length_singleton]; decide) (fun wx hb => fork_any (3,p,v,ks) (.int .i64 3,.slice a1 p.length c1,.slice a2 v.length c2,.slice a3 ks.length c3) wx (Sh_below h hb) (by show ks.length ≤ _; omega))
 ·exfalso
  have e : isS (kk,p,v,ks) = false := by unfold isS; simp [k0,k1,k2,k3]
  rw [e] at hs; cases hs
theorem write_walk (kk : Int) (a1 a2 a3 : Option Addr) (n1 c1 n2 c2 n3 c3 : Nat) (w : World) (t : It) (ht : Hid ((enc t).length ≤ 1048576))
  (KI : Hid (∀ wx : World,Below w.heap.size w wx → Calls Tryz.prog 57 #[.agg #[.int .i64 kk,.slice a1 n1 c1,.slice a2 n2 c2,.slice a3 n3 c3]] wx fun e w' => ∃ v,e = .returned (v3 v) ∧ Iv (fun _ => True) w' t v ∧ Below wx.heap.size wx w' ∧ Fm v)) :
  Calls Tryz.prog 33 #[.agg #[.int .i64 kk,.slice a1 n1 c1,.slice a2 n2 c2,.slice a3 n3 c3]] w fun e w' => ∃ v,e = .returned v ∧ Ty (w.heap.size ≤ ·) (enc t) v w' ∧ Cp v ∧ Below w.heap.size w w' := by
 have HB : Hid (Below w.heap.size w (w.alloc (.cells #[.int .i64 kk,.slice a1 n1 c1,.slice a2 n2 c2,.slice a3 n3 c3] 63))) := (Below.refl _ _).alloc (Nat.le_refl _) _; go_enter Tryz.func33,Tryz.ntmps33
 go_wp2_with fail
 refine (KI.out _ HB.out).mono ?_; rintro e w1 ⟨v,rfl,hiv,hb,l,b1,m1,d1,b2,m2,d2,rfl⟩; have HL1 : Below w.heap.size w w1 := HB.out.trans (hb.mono HB.out.size); have KE : Hid (Calls Tryz.prog 56 #[.agg #[.bool l,.slice b1 m1 d1,.slice b2 m2 d2]] w1 fun e w' => ∃ v,e = .returned v ∧ Ty (w.heap.size ≤ ·) (enc t) v w' ∧ Cp v ∧ Below w.heap.size w w') :=
  (encode_cp t (fun _ => True) (.bool l,.slice b1 m1 d1,.slice b2 m2 d2) w1 hiv ht.out).mono fun e w' he => by
   obtain ⟨v,h1,h2,h3,h4⟩ := he; exact ⟨v,h1,Ty_mono h2 (fun k hk _ => Nat.le_trans HL1.size hk),h3,HL1.trans (h4.mono HL1.size)⟩
 clear hiv hb KI HB HL1; dsimp only [v3]; go_wp2_with fail
 refine KE.out.mono ?_; rintro e w3 ⟨v,rfl,h2,h3,h4⟩; have HZ : Hid (Ty (w.heap.size ≤ ·) (enc t) v w3 ∧ Cp v ∧ Below w.heap.size w w3) := ⟨h2,h3,h4⟩; clear h2 h3 h4 KE; go_wp2_with fail
 go_ret
 exact ⟨_,rfl,HZ.out⟩
theorem write_any (s : Shp) (x : V4) (w : World) (h : Sh s x w) (hs : isS s = true) (hp : s.2.1.length ≤ 1048576) :
  Calls Tryz.prog 33 #[v4 x] w fun e w' => ∃ v,e = .returned v ∧ Ty (w.heap.size ≤ ·) (enc (itS s)) v w' ∧ Cp v ∧ Below w.heap.size w w' := by
 obtain ⟨a1,c1,a2,c2,a3,c3,e⟩ := Sh_form h; have KI := fun (wx : World) (hb : Below w.heap.size w wx) => itemof_any s x wx (Sh_below h hb) hs hp
 subst e; exact write_walk s.1 a1 a2 a3 _ c1 _ c2 _ c3 w (itS s) (encS_len s hs hp) KI
end Rs
end Go.Proofs.YtlbdaccmnpcccaaGreatDoor
