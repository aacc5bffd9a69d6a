/-
  The walks of Get and Whole.
-/
import Derived.Test.YtmeajhdhiebkdaaDoorRcBetween
import Derived.Test.YtmeajhdhiebkdaaDoorRcPut
namespace Go.Proofs.YtmeajhdhiebkdaaDoor.Rc
set_option maxRecDepth 100000
open Go.RowKit

/-- What Get tells. -/
def getR (a b : List Int) : Rec × Int := if isRec (betR a b) = true ∧ laidR (betR a b) 0 ++ laidR (betR a b) 1 = a ++ b then (betR a b, 0) else (zrec, 12)
theorem getR_ok {a b : List Int} (ha : Byts 64 a) (hb : Byts 64 b) : (getR a b).1.Ok := by
  unfold getR
  split
  · exact betR_ok ha hb
  · exact zrec_ok
theorem res16 (w : World) (z : Nat) (vs : List Value) (e : Int) (tmps : Array Value) (h4 : tmps[4]?.getD undef = P0 z) (h5 : tmps[5]?.getD undef = .int .i64 e) (hl : vs.length = 101) (hb : Blk w z 45 vs) : (results Tryd.f92 tmps).run Tryd.prog w = .ok (.tuple #[aggV vs, .int .i64 e]) w := by
  have := loadV row25 hl hb
  simp [results, Tryd.results92, h4, h5, this, asAddr]
theorem wpLoadG {ops : Array Oper} {rest : List Oper} {op : Oper} {a : Act} {w : World} {Q : Exit → Act → World → Prop} {T n : Nat} (hT : Row T n) (x : Operand) (ho : op.op = .load T x) (hw : Region.wanted op (yielded ops a.tmps) = true) (b o : Nat) (hx : a.eval x = .pointer (some ⟨b, o, none⟩)) (vs : List Value) (hl : vs.length = n) (hA : w.rangeAt b o vs)
    (h : wpList Tryd.prog ops Q rest (a.put op.dst (aggV vs)) w) : wpList Tryd.prog ops Q (op :: rest) a w :=
  BigFrame.wpList_want hw fun _ hK => wp_loadA hT x ho b o hx vs hl hA (hK _ _ h)

set_option maxHeartbeats 4000000 in
set_option maxRecDepth 100000 in
theorem get_no (a b : List Int) (ha : Byts 64 a) (hb : Byts 64 b) (hI : isRec (betR a b) = false) (w : World) : Calls Tryd.prog 92 #[aggV (u8s a), aggV (u8s b)] w fun e w' => e = .returned (.tuple #[aggV (recC (zrec)), .int .i64 12]) ∧ Kept [] w w' := by
  have hau : (u8s a).length = 64 := by rw [u8s_len, ha.len]
  have hbu : (u8s b).length = 64 := by rw [u8s_len, hb.len]
  have lb := recC_len (betR_ok ha hb).bd.len
  have lL := zl 128
  have hp : putR (betR a b) = (zs 128, 2) := by simp [putR, hI]
  have hP := hide (put8 (betR a b) (betR_ok ha hb).bd)
  rw [hp] at hP
  have hB := hide (between38 a b ha hb)
  clear hp hI
  generalize betR a b = R at *
  go_enter Tryd.func92, Tryd.ntmps92
  have KK0 := hide (Kept.refl [] w)
  go_wp2_with (
    first
    | (refine wpBoxV rfl (.tmp 0) rfl (u8s a) rfl ?_
       intro W1 b1 e1 B1 K1
       have Z1 : Hid (w.heap.size ≤ b1) := by have := (unhide KK0).size; show _ ≤ _; omega
       have KK1 := hide ((unhide KK0).trans K1)
       have X1_a := hide B1
       clear e1 B1 K1 KK0)
    | (refine wpBoxV rfl (.tmp 1) rfl (u8s b) rfl ?_
       intro W2 b2 e2 B2 K2
       have Z2 : Hid (w.heap.size ≤ b2) := by have := (unhide KK1).size; show _ ≤ _; omega
       have X2_a := hide ((unhide X1_a).kept K2 (by simp))
       have KK2 := hide ((unhide KK1).trans K2)
       have X2_b := hide B2
       clear e2 B2 K2 X1_a KK1)
    | (refine wpAllocW (recC zrec) zero25 4 rfl rfl rfl ?_
       intro W3 b3 e3 B3 K3
       have Z3 : Hid (w.heap.size ≤ b3) := by have := (unhide KK2).size; show _ ≤ _; omega
       have X3_a := hide ((unhide X2_a).kept K3 (by simp))
       have X3_b := hide ((unhide X2_b).kept K3 (by simp))
       have KK3 := hide ((unhide KK2).trans K3)
       have X3_z := hide B3
       clear e3 B3 K3 X2_a X2_b KK2)
    | (refine wpLoadA row29 rfl (.tmp 2) rfl b1 0 rfl (u8s a) hau (unhide X3_a).range ?_)
    | (refine wpLoadA row29 rfl (.tmp 3) rfl b2 0 rfl (u8s b) hbu (unhide X3_b).range ?_)
    | (go_at_call 95
       refine (unhide hB _).mono ?_
       rintro e W4 ⟨rfl, K4⟩
       have X4_a := hide ((unhide X3_a).kept K4 (by simp))
       have X4_b := hide ((unhide X3_b).kept K4 (by simp))
       have X4_z := hide ((unhide X3_z).kept K4 (by simp))
       have KK4 := hide ((unhide KK3).trans K4)
       clear K4 X3_a X3_b X3_z KK3)
    | (refine wpNew row25 (recC zrec) zrecl zero25 6 rfl rfl rfl (.tmp 11) rfl rfl rfl (recC R) lb (recC_one _) rfl rfl ?_
       intro W5 b5 e5 B5 K5
       have Z5 : Hid (w.heap.size ≤ b5) := by have := (unhide KK4).size; show _ ≤ _; omega
       have X5_a := hide ((unhide X4_a).kept K5 (by simp))
       have X5_b := hide ((unhide X4_b).kept K5 (by simp))
       have X5_z := hide ((unhide X4_z).kept K5 (by simp))
       have KK5 := hide ((unhide KK4).trans K5)
       have X5_r := hide B5
       clear e5 B5 K5 X4_a X4_b X4_z KK4)
    | (refine wpLoadA row25 rfl (.tmp 6) rfl b5 0 rfl (recC R) lb (unhide X5_r).range ?_)
    | (go_at_call 35
       refine (unhide hP _).mono ?_
       rintro e W6 ⟨rfl, K6⟩
       have X6_a := hide ((unhide X5_a).kept K6 (by simp))
       have X6_b := hide ((unhide X5_b).kept K6 (by simp))
       have X6_z := hide ((unhide X5_z).kept K6 (by simp))
       have X6_r := hide ((unhide X5_r).kept K6 (by simp))
       have KK6 := hide ((unhide KK5).trans K6)
       clear K6 X5_a X5_b X5_z X5_r KK5)
    | (refine wpNew row30 (u8s (zs 128)) (zl 128) zero30 7 rfl rfl rfl (.tmp 15) rfl rfl rfl (u8s (zs 128)) lL (u8s_one _) rfl rfl ?_
       intro W7 b7 e7 B7 K7
       have Z7 : Hid (w.heap.size ≤ b7) := by have := (unhide KK6).size; show _ ≤ _; omega
       have X7_a := hide ((unhide X6_a).kept K7 (by simp))
       have X7_b := hide ((unhide X6_b).kept K7 (by simp))
       have X7_z := hide ((unhide X6_z).kept K7 (by simp))
       have X7_r := hide ((unhide X6_r).kept K7 (by simp))
       have KK7 := hide ((unhide KK6).trans K7)
       have X7_l := hide B7
       clear e7 B7 K7 X6_a X6_b X6_z X6_r KK6)
    | (refine wpBuildZ (recC zrec) build25 rfl rfl ?_)
    | (refine wpStoreA row25 rfl (.tmp 4) (.tmp 26) rfl b3 0 (recC zrec) rfl rfl zrecl (recC_one _) ((unhide X7_z).there (by rw [zrecl]; omega)) ?_))
  have g4 := (unhide X7_z).put (vs := recC (zrec)) (zrecl.trans zrecl.symm)
  have nz := unhide Z3
  exact bodyPost_ret (res16 _ _ _ _ _ rfl rfl zrecl g4) rfl ⟨rfl, (unhide KK7).setCells _ _ (by omega)⟩

set_option maxHeartbeats 4000000 in
set_option maxRecDepth 100000 in
theorem get_yes (a b : List Int) (ha : Byts 64 a) (hb : Byts 64 b) (hI : isRec (betR a b) = true) (hN : laidR (betR a b) 0 ++ laidR (betR a b) 1 = a ++ b) (w : World) : Calls Tryd.prog 92 #[aggV (u8s a), aggV (u8s b)] w fun e w' => e = .returned (.tuple #[aggV (recC (betR a b)), .int .i64 0]) ∧ Kept [] w w' := by
  have hau : (u8s a).length = 64 := by rw [u8s_len, ha.len]
  have hbu : (u8s b).length = 64 := by rw [u8s_len, hb.len]
  have lb := recC_len (betR_ok ha hb).bd.len
  have lL0 : (laidR (betR a b) 0 ++ laidR (betR a b) 1).length = 128 := by rw [List.length_append, (laidR_byts (by omega) (betR_ok ha hb).bd).len, (laidR_byts (by omega) (betR_ok ha hb).bd).len]
  have lL : (u8s (laidR (betR a b) 0 ++ laidR (betR a b) 1)).length = 128 := by rw [u8s_len, lL0]
  have hp : putR (betR a b) = (laidR (betR a b) 0 ++ laidR (betR a b) 1, 0) := by simp [putR, hI]
  have hP := hide (put8 (betR a b) (betR_ok ha hb).bd)
  rw [hp] at hP
  have HN := hide hN
  have hB := hide (between38 a b ha hb)
  clear hp hN hI
  generalize laidR (betR a b) 0 ++ laidR (betR a b) 1 = L at *
  generalize betR a b = R at *
  go_enter Tryd.func92, Tryd.ntmps92
  have KK0 := hide (Kept.refl [] w)
  go_wp2_with (
    first
    | (refine wpBoxV rfl (.tmp 0) rfl (u8s a) rfl ?_
       intro W1 b1 e1 B1 K1
       have Z1 : Hid (w.heap.size ≤ b1) := by have := (unhide KK0).size; show _ ≤ _; omega
       have KK1 := hide ((unhide KK0).trans K1)
       have X1_a := hide B1
       clear e1 B1 K1 KK0)
    | (refine wpBoxV rfl (.tmp 1) rfl (u8s b) rfl ?_
       intro W2 b2 e2 B2 K2
       have Z2 : Hid (w.heap.size ≤ b2) := by have := (unhide KK1).size; show _ ≤ _; omega
       have X2_a := hide ((unhide X1_a).kept K2 (by simp))
       have KK2 := hide ((unhide KK1).trans K2)
       have X2_b := hide B2
       clear e2 B2 K2 X1_a KK1)
    | (refine wpAllocW (recC zrec) zero25 4 rfl rfl rfl ?_
       intro W3 b3 e3 B3 K3
       have Z3 : Hid (w.heap.size ≤ b3) := by have := (unhide KK2).size; show _ ≤ _; omega
       have X3_a := hide ((unhide X2_a).kept K3 (by simp))
       have X3_b := hide ((unhide X2_b).kept K3 (by simp))
       have KK3 := hide ((unhide KK2).trans K3)
       have X3_z := hide B3
       clear e3 B3 K3 X2_a X2_b KK2)
    | (refine wpLoadA row29 rfl (.tmp 2) rfl b1 0 rfl (u8s a) hau (unhide X3_a).range ?_)
    | (refine wpLoadA row29 rfl (.tmp 3) rfl b2 0 rfl (u8s b) hbu (unhide X3_b).range ?_)
    | (go_at_call 95
       refine (unhide hB _).mono ?_
       rintro e W4 ⟨rfl, K4⟩
       have X4_a := hide ((unhide X3_a).kept K4 (by simp))
       have X4_b := hide ((unhide X3_b).kept K4 (by simp))
       have X4_z := hide ((unhide X3_z).kept K4 (by simp))
       have KK4 := hide ((unhide KK3).trans K4)
       clear K4 X3_a X3_b X3_z KK3)
    | (refine wpNew row25 (recC zrec) zrecl zero25 6 rfl rfl rfl (.tmp 11) rfl rfl rfl (recC R) lb (recC_one _) rfl rfl ?_
       intro W5 b5 e5 B5 K5
       have Z5 : Hid (w.heap.size ≤ b5) := by have := (unhide KK4).size; show _ ≤ _; omega
       have X5_a := hide ((unhide X4_a).kept K5 (by simp))
       have X5_b := hide ((unhide X4_b).kept K5 (by simp))
       have X5_z := hide ((unhide X4_z).kept K5 (by simp))
       have KK5 := hide ((unhide KK4).trans K5)
       have X5_r := hide B5
       clear e5 B5 K5 X4_a X4_b X4_z KK4)
    | (refine wpLoadA row25 rfl (.tmp 6) rfl b5 0 rfl (recC R) lb (unhide X5_r).range ?_)
    | (go_at_call 35
       refine (unhide hP _).mono ?_
       rintro e W6 ⟨rfl, K6⟩
       have X6_a := hide ((unhide X5_a).kept K6 (by simp))
       have X6_b := hide ((unhide X5_b).kept K6 (by simp))
       have X6_z := hide ((unhide X5_z).kept K6 (by simp))
       have X6_r := hide ((unhide X5_r).kept K6 (by simp))
       have KK6 := hide ((unhide KK5).trans K6)
       clear K6 X5_a X5_b X5_z X5_r KK5)
    | (refine wpNew row30 (u8s (zs 128)) (zl 128) zero30 7 rfl rfl rfl (.tmp 15) rfl rfl rfl (u8s (L)) lL (u8s_one _) rfl rfl ?_
       intro W7 b7 e7 B7 K7
       have Z7 : Hid (w.heap.size ≤ b7) := by have := (unhide KK6).size; show _ ≤ _; omega
       have X7_a := hide ((unhide X6_a).kept K7 (by simp))
       have X7_b := hide ((unhide X6_b).kept K7 (by simp))
       have X7_z := hide ((unhide X6_z).kept K7 (by simp))
       have X7_r := hide ((unhide X6_r).kept K7 (by simp))
       have KK7 := hide ((unhide KK6).trans K7)
       have X7_l := hide B7
       clear e7 B7 K7 X6_a X6_b X6_z X6_r KK6)
    | (refine wpLoadG row30 (.tmp 7) rfl rfl b7 0 rfl (u8s (L)) lL (unhide X7_l).range ?_)
    | (refine wpLoadG row29 (.tmp 2) rfl rfl b1 0 rfl (u8s a) hau (unhide X7_a).range ?_)
    | (refine wpLoadG row29 (.tmp 3) rfl rfl b2 0 rfl (u8s b) hbu (unhide X7_b).range ?_)
    | (refine wpBuildG _ rfl rfl #[(0, aggV (u8s a)), (1, aggV (u8s b))] (by simp only [List.map_toArray, List.map_cons, List.map_nil]; rfl) (u8s (a ++ b)) (build30p _ a b ha.len hb.len) ?_)
    | (refine wpNeqG 81 81 guard30 (.tmp 20) (.tmp 23) rfl rfl (u8s (L)) (u8s (a ++ b)) rfl rfl true ((equal30' _ _ a b lL0 ha.len hb.len).trans (by rw [decide_eq_true (unhide HN)])) ?_)
    | (refine wpLoadA row25 rfl (.tmp 6) rfl b5 0 rfl (recC R) lb (unhide X7_r).range ?_)
    | (refine wpStoreA row25 rfl (.tmp 4) (.tmp 27) rfl b3 0 (recC R) rfl rfl lb (recC_one _) ((unhide X7_z).there (by rw [zrecl]; omega)) ?_))
  have g4 := (unhide X7_z).put (vs := recC (R)) (zrecl.trans lb.symm)
  have nz := unhide Z3
  exact bodyPost_ret (res16 _ _ _ _ _ rfl rfl lb g4) rfl ⟨rfl, (unhide KK7).setCells _ _ (by omega)⟩

set_option maxHeartbeats 4000000 in
set_option maxRecDepth 100000 in
theorem get_other (a b : List Int) (ha : Byts 64 a) (hb : Byts 64 b) (hI : isRec (betR a b) = true) (hN : ¬ laidR (betR a b) 0 ++ laidR (betR a b) 1 = a ++ b) (w : World) : Calls Tryd.prog 92 #[aggV (u8s a), aggV (u8s b)] w fun e w' => e = .returned (.tuple #[aggV (recC (zrec)), .int .i64 12]) ∧ Kept [] w w' := by
  have hau : (u8s a).length = 64 := by rw [u8s_len, ha.len]
  have hbu : (u8s b).length = 64 := by rw [u8s_len, hb.len]
  have lb := recC_len (betR_ok ha hb).bd.len
  have lL0 : (laidR (betR a b) 0 ++ laidR (betR a b) 1).length = 128 := by rw [List.length_append, (laidR_byts (by omega) (betR_ok ha hb).bd).len, (laidR_byts (by omega) (betR_ok ha hb).bd).len]
  have lL : (u8s (laidR (betR a b) 0 ++ laidR (betR a b) 1)).length = 128 := by rw [u8s_len, lL0]
  have hp : putR (betR a b) = (laidR (betR a b) 0 ++ laidR (betR a b) 1, 0) := by simp [putR, hI]
  have hP := hide (put8 (betR a b) (betR_ok ha hb).bd)
  rw [hp] at hP
  have HN := hide hN
  have hB := hide (between38 a b ha hb)
  clear hp hN hI
  generalize laidR (betR a b) 0 ++ laidR (betR a b) 1 = L at *
  generalize betR a b = R at *
  go_enter Tryd.func92, Tryd.ntmps92
  have KK0 := hide (Kept.refl [] w)
  go_wp2_with (
    first
    | (refine wpBoxV rfl (.tmp 0) rfl (u8s a) rfl ?_
       intro W1 b1 e1 B1 K1
       have Z1 : Hid (w.heap.size ≤ b1) := by have := (unhide KK0).size; show _ ≤ _; omega
       have KK1 := hide ((unhide KK0).trans K1)
       have X1_a := hide B1
       clear e1 B1 K1 KK0)
    | (refine wpBoxV rfl (.tmp 1) rfl (u8s b) rfl ?_
       intro W2 b2 e2 B2 K2
       have Z2 : Hid (w.heap.size ≤ b2) := by have := (unhide KK1).size; show _ ≤ _; omega
       have X2_a := hide ((unhide X1_a).kept K2 (by simp))
       have KK2 := hide ((unhide KK1).trans K2)
       have X2_b := hide B2
       clear e2 B2 K2 X1_a KK1)
    | (refine wpAllocW (recC zrec) zero25 4 rfl rfl rfl ?_
       intro W3 b3 e3 B3 K3
       have Z3 : Hid (w.heap.size ≤ b3) := by have := (unhide KK2).size; show _ ≤ _; omega
       have X3_a := hide ((unhide X2_a).kept K3 (by simp))
       have X3_b := hide ((unhide X2_b).kept K3 (by simp))
       have KK3 := hide ((unhide KK2).trans K3)
       have X3_z := hide B3
       clear e3 B3 K3 X2_a X2_b KK2)
    | (refine wpLoadA row29 rfl (.tmp 2) rfl b1 0 rfl (u8s a) hau (unhide X3_a).range ?_)
    | (refine wpLoadA row29 rfl (.tmp 3) rfl b2 0 rfl (u8s b) hbu (unhide X3_b).range ?_)
    | (go_at_call 95
       refine (unhide hB _).mono ?_
       rintro e W4 ⟨rfl, K4⟩
       have X4_a := hide ((unhide X3_a).kept K4 (by simp))
       have X4_b := hide ((unhide X3_b).kept K4 (by simp))
       have X4_z := hide ((unhide X3_z).kept K4 (by simp))
       have KK4 := hide ((unhide KK3).trans K4)
       clear K4 X3_a X3_b X3_z KK3)
    | (refine wpNew row25 (recC zrec) zrecl zero25 6 rfl rfl rfl (.tmp 11) rfl rfl rfl (recC R) lb (recC_one _) rfl rfl ?_
       intro W5 b5 e5 B5 K5
       have Z5 : Hid (w.heap.size ≤ b5) := by have := (unhide KK4).size; show _ ≤ _; omega
       have X5_a := hide ((unhide X4_a).kept K5 (by simp))
       have X5_b := hide ((unhide X4_b).kept K5 (by simp))
       have X5_z := hide ((unhide X4_z).kept K5 (by simp))
       have KK5 := hide ((unhide KK4).trans K5)
       have X5_r := hide B5
       clear e5 B5 K5 X4_a X4_b X4_z KK4)
    | (refine wpLoadA row25 rfl (.tmp 6) rfl b5 0 rfl (recC R) lb (unhide X5_r).range ?_)
    | (go_at_call 35
       refine (unhide hP _).mono ?_
       rintro e W6 ⟨rfl, K6⟩
       have X6_a := hide ((unhide X5_a).kept K6 (by simp))
       have X6_b := hide ((unhide X5_b).kept K6 (by simp))
       have X6_z := hide ((unhide X5_z).kept K6 (by simp))
       have X6_r := hide ((unhide X5_r).kept K6 (by simp))
       have KK6 := hide ((unhide KK5).trans K6)
       clear K6 X5_a X5_b X5_z X5_r KK5)
    | (refine wpNew row30 (u8s (zs 128)) (zl 128) zero30 7 rfl rfl rfl (.tmp 15) rfl rfl rfl (u8s (L)) lL (u8s_one _) rfl rfl ?_
       intro W7 b7 e7 B7 K7
       have Z7 : Hid (w.heap.size ≤ b7) := by have := (unhide KK6).size; show _ ≤ _; omega
       have X7_a := hide ((unhide X6_a).kept K7 (by simp))
       have X7_b := hide ((unhide X6_b).kept K7 (by simp))
       have X7_z := hide ((unhide X6_z).kept K7 (by simp))
       have X7_r := hide ((unhide X6_r).kept K7 (by simp))
       have KK7 := hide ((unhide KK6).trans K7)
       have X7_l := hide B7
       clear e7 B7 K7 X6_a X6_b X6_z X6_r KK6)
    | (refine wpLoadG row30 (.tmp 7) rfl rfl b7 0 rfl (u8s (L)) lL (unhide X7_l).range ?_)
    | (refine wpLoadG row29 (.tmp 2) rfl rfl b1 0 rfl (u8s a) hau (unhide X7_a).range ?_)
    | (refine wpLoadG row29 (.tmp 3) rfl rfl b2 0 rfl (u8s b) hbu (unhide X7_b).range ?_)
    | (refine wpBuildG _ rfl rfl #[(0, aggV (u8s a)), (1, aggV (u8s b))] (by simp only [List.map_toArray, List.map_cons, List.map_nil]; rfl) (u8s (a ++ b)) (build30p _ a b ha.len hb.len) ?_)
    | (refine wpNeqG 81 81 guard30 (.tmp 20) (.tmp 23) rfl rfl (u8s (L)) (u8s (a ++ b)) rfl rfl false ((equal30' _ _ a b lL0 ha.len hb.len).trans (by rw [decide_eq_false (unhide HN)])) ?_)
    | (refine wpBuildZ (recC zrec) build25 rfl rfl ?_)
    | (refine wpStoreA row25 rfl (.tmp 4) (.tmp 26) rfl b3 0 (recC zrec) rfl rfl zrecl (recC_one _) ((unhide X7_z).there (by rw [zrecl]; omega)) ?_))
  have g4 := (unhide X7_z).put (vs := recC (zrec)) (zrecl.trans zrecl.symm)
  have nz := unhide Z3
  exact bodyPost_ret (res16 _ _ _ _ _ rfl rfl zrecl g4) rfl ⟨rfl, (unhide KK7).setCells _ _ (by omega)⟩

theorem get16 (a b : List Int) (ha : Byts 64 a) (hb : Byts 64 b) (w : World) : Calls Tryd.prog 92 #[aggV (u8s a), aggV (u8s b)] w fun e w' => e = .returned (.tuple #[aggV (recC (getR a b).1), .int .i64 (getR a b).2]) ∧ Kept [] w w' := by
  cases hI : isRec (betR a b) with
  | false =>
    have e : getR a b = (zrec, 12) := by simp [getR, hI]
    rw [e]
    exact get_no a b ha hb hI w
  | true =>
    by_cases hN : laidR (betR a b) 0 ++ laidR (betR a b) 1 = a ++ b
    · have e : getR a b = (betR a b, 0) := by simp [getR, hI, hN]
      rw [e]
      exact get_yes a b ha hb hI hN w
    · have e : getR a b = (zrec, 12) := by simp [getR, hN]
      rw [e]
      exact get_other a b ha hb hI hN w

end Go.Proofs.YtmeajhdhiebkdaaDoor.Rc
