/-
  The laws' version.
-/
import Derived.Test.YtmeajhdhiebkdaaDoorLs
namespace Go.Proofs.YtmeajhdhiebkdaaDoor
set_option maxRecDepth 100000
open Go.RowKit

theorem row28 : Row 28 97 := ⟨_, Tryd.underlying28, rfl, by kernel_rfl⟩
theorem zero28 (w : World) : (Instr.alloc 28 true (.tuple #[])).run Tryd.prog w = .ok (P0 w.heap.size) (w.alloc (.cells (verC 0 (Rc.zs 96)).toArray 28)) := by kernel_rfl
theorem build28p (w : World) (ps : Int) : (Instr.build 28 #[(0, .int .i64 ps)]).run Tryd.prog w = .ok (aggV (verC ps (Rc.zs 96))) w := by kernel_rfl
theorem verC_one (ps : Int) (bd : List Int) : ∀ u ∈ verC ps bd, u.oneCell' = true := by
  intro u hu
  rcases List.mem_cons.1 hu with rfl | hu
  · rfl
  · exact u8s_one _ u hu
theorem res24 (w : World) (z : Nat) (vs : List Value) (tmps : Array Value) (h0 : tmps[4]?.getD undef = P0 z) (hl : vs.length = 97) (hb : Blk w z 28 vs) : (results Tryd.f24 tmps).run Tryd.prog w = .ok (aggV vs) w := by
  have := loadV row28 hl hb
  simp [results, Tryd.results24, h0, this, asAddr]
set_option maxHeartbeats 2000000 in
theorem version24 (ps x : Int) (w : World) : Calls Tryd.prog 24 #[.int .i64 ps, .int .u8 x] w fun e w' => e = .returned (aggV (verC ps (x :: Rc.zs 95))) ∧ Kept [] w w' := by
  have hl0 : (verC ps (Rc.zs 96)).length = 97 := by simp [verC, u8s_len, Rc.zs]
  have HL0 := hide hl0
  have HL1 : Hid ((verC ps (x :: Rc.zs 95)).length = 97) := by show _ = _; simp [verC, u8s_len, Rc.zs]
  have HLZ : Hid ((verC 0 (Rc.zs 96)).length = 97) := by show _ = _; simp [verC, u8s_len, Rc.zs]
  clear hl0
  go_enter Tryd.func24, Tryd.ntmps24
  go_wp2_with (
    first
    | (refine wpAllocW (verC 0 (Rc.zs 96)) zero28 4 (by rfl) (by rfl) (by rfl) ?_
       intro W2 zb ez BZ K2
       have HZ := hide BZ
       have HK := hide K2
       have HE : Hid (w.heap.size ≤ zb) := by rw [ez]; exact (Nat.le_refl _ : w.heap.size ≤ w.heap.size)
       clear ez BZ K2
       refine Stp.go ?_))
  constructor
  go_wp2_with (
    first
    | (refine wpBuildP (by rfl) _ (by rfl) #[(0, .int .i64 ps)] (by simp only [List.map_toArray, List.map_cons, List.map_nil]; rfl) (verC ps (Rc.zs 96)) (build28p _ _) ?_
       refine Stp.go ?_))
  constructor
  go_wp2_with (
    first
    | (refine wpNew row28 (verC 0 (Rc.zs 96)) (unhide HLZ) zero28 5 (by rfl) (by rfl) (by rfl) (.tmp 7) (by rfl) (by rfl) (by rfl) (verC ps (Rc.zs 96)) (unhide HL0) (verC_one _ _) (by kernel_rfl) (by kernel_rfl) ?_
       intro W3 t5 e5 B5 K5
       have H5 : Hid (Blk (W3.setCell ⟨t5, 1, none⟩ (.int .u8 x)) t5 28 (verC ps (x :: Rc.zs 95))) := B5.set (i := 1) (.int .u8 x)
       have hc1 : W3.cell? ⟨t5, 1, none⟩ = some (.int .u8 0) := fits_cell B5 1 _ rfl
       have hz1 := B5.frozen 1
       have HN5 : Hid (zb < t5) := by have := (unhide HZ).lt; show _ < _; omega
       have HG5 : Hid (w.heap.size ≤ t5) := by rw [e5]; exact (unhide HK).size
       replace HZ := hide ((unhide HZ).kept K5 (by simp))
       replace HK := hide ((unhide HK).trans K5)
       clear e5 B5 K5
       refine Stp.go ?_))
  constructor
  have HZ2 : Hid (Blk (W3.setCell ⟨t5, 1, none⟩ (.int .u8 x)) zb 28 (verC 0 (Rc.zs 96))) := by
    have hne := unhide HN5
    exact (unhide HZ).kept (X := [t5]) ((Kept.refl _ _).setCell (by simp) _) (by simp; omega)
  have HK2 : Hid (Kept [] w (W3.setCell ⟨t5, 1, none⟩ (.int .u8 x))) := by
    have hge := unhide HG5
    exact (unhide HK).setCell (by simp; omega) _
  go_wp2_with (
    first
    | (refine wpLoadA row28 (by rfl) (.tmp 5) (by rfl) t5 0 (by kernel_rfl) (verC ps (x :: Rc.zs 95)) (unhide HL1) (unhide H5).range ?_
       refine Stp.go ?_))
  constructor
  go_wp2_with (
    first
    | (refine wpStoreA row28 (by rfl) (.tmp 4) (.tmp 11) (by rfl) zb 0 (verC ps (x :: Rc.zs 95)) (by kernel_rfl) (by kernel_rfl) (unhide HL1) (verC_one _ _) ((unhide HZ2).there (by rw [unhide HLZ]; omega)) ?_))
  have g4 := (unhide HZ2).put (vs := verC ps (x :: Rc.zs 95)) ((unhide HL1).trans (unhide HLZ).symm)
  have hz2 := unhide HE
  exact bodyPost_ret (res24 _ _ _ _ rfl (unhide HL1) g4) rfl ⟨rfl, (unhide HK2).setCells _ _ (by omega)⟩

end Go.Proofs.YtmeajhdhiebkdaaDoor
