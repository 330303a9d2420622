/- lampbearerref.SPad: the document's own filling up. -/
import Derived.Test.YtjikibeacbkkjaaSpPad
namespace Go.Proofs.Ytjikibeacbkkjaa
namespace Sp
open Go.RowKit
set_option maxHeartbeats 1000000 in
set_option maxRecDepth 100000 in
theorem spad_any (l : List UInt8) (ao : Option Addr) (cap : Nat) (w : World) (hl : (l.length : Int) ≤ 140737488355328) (hv : Vw l ao w) :
    Calls Try.prog 14 #[.slice ao l.length cap] w fun e w' => ∃ g, e = .returned (.slice (some ⟨g, 0, none⟩) (pad l).length (pad l).length) ∧ Vb .u8 w.heap.size g (pad l).length (bz (pad l)) w' ∧ Below w.heap.size w w' := by
  obtain ⟨N, hN⟩ : ∃ N, N = (l.length + 33) / 32 * 32 := ⟨_, rfl⟩
  have HP : Hid ((pad l).length = N) := by show _ = _; rw [pad_length, hN]
  have h1 : l.length + 2 ≤ N := by omega
  have h2 : (N : Int) ≤ 140737488355392 := by omega
  have HN : Hid (N = (l.length + 33) / 32 * 32) := hN
  have hmk := run_make_row' (P := Try.prog) 27 5 (.int .u8 0) 1 Try.underlying27 info8 rfl .i64 .i64 N (by omega) (by omega)
  obtain ⟨W2, hcp, v2, b2⟩ := copy_run l ao cap N w (by omega) hv
  clear hv
  rw [HP.out]
  have c1 := v2.c l.length (by omega)
  have f1 := v2.f l.length
  have v3 := Vb_set (v := 1) (i := l.length) v2 (by omega)
  have c2 := v3.c (N - 1) (by omega)
  have f2 := v3.f (N - 1)
  have v4 := Vb_set (v := 128) (i := N - 1) v3 (by omega)
  have b4 := (b2.setCell (p := ⟨w.heap.size, l.length, none⟩) (Nat.le_refl _) (.int .u8 1)).setCell (p := ⟨w.heap.size, N - 1, none⟩) (Nat.le_refl _) (.int .u8 128)
  have HV : Hid (Vb .u8 w.heap.size w.heap.size N (bz (pad l)) ((W2.setCell ⟨w.heap.size, l.length, none⟩ (.int .u8 1)).setCell ⟨w.heap.size, N - 1, none⟩ (.int .u8 128))) := ⟨v4.lo, v4.hi, CK_ext v4.c (fun o _ => pad_cells l N HN.out o), v4.f⟩
  have HB : Hid (Below w.heap.size w ((W2.setCell ⟨w.heap.size, l.length, none⟩ (.int .u8 1)).setCell ⟨w.heap.size, N - 1, none⟩ (.int .u8 128))) := b4
  clear v2 v3 v4 b2 b4
  have i1 : (l.length : Int) < (N : Int) := by omega
  have i2 : (0 : Int) ≤ (N : Int) - 1 := by omega
  have i3 : (N : Int) - 1 < (N : Int) := by omega
  have t1 : ((N : Int) - 1).toNat = N - 1 := by omega
  by_cases h31 : l.length % 32 = 31
  · have e1 : ((l.length : Int) / 32 + 1) * 32 + 32 = (N : Int) := by omega
    have d1 : ((l.length : Int) % 32 == 31) = true := by simp; omega
    clear hN h31
    go_enter Try.func14, Try.ntmps14
    go_wp2
    go_ret
    exact ⟨_, rfl, HV.out, HB.out⟩
  · have e1 : ((l.length : Int) / 32 + 1) * 32 = (N : Int) := by omega
    have d1 : ((l.length : Int) % 32 == 31) = false := by simp; omega
    clear hN h31
    go_enter Try.func14, Try.ntmps14
    go_wp2
    go_ret
    exact ⟨_, rfl, HV.out, HB.out⟩
end Sp
end Go.Proofs.Ytjikibeacbkkjaa
