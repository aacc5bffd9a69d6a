/-
  MemberNil.
-/
import Derived.Test.YtcfflbafclmheaaGreatDoorC~

/-
  MemberNil.
-/
namespace Go.Proofs.YtcfflbafclmheaaGreatDoor
set_option maxRecDepth 100000
set_option linter.unusedSimpArgs false
open Go.RowKit
open Le (Mm wpStoreM wpStoreM1)

open Go.Shelf
theorem wpBsX {ops : Array Oper} {rest : List Oper} {op : Oper} {a : Act} {w : World} {Q : Exit → Act → World → Prop} {T TT n : Nat} (hgd : op.guard = none) (parts : Array (Nat × Operand)) (ho : op.op = .buildSlice T n parts) (ps : Array (Nat × Value)) (hp : (parts.map fun (i, x) => (i, a.eval x)) = ps) (cs : List Value)
    (hr : ∀ w : World, (Instr.buildSlice T n ps).run Tryz.prog w = .ok (.slice (some ⟨w.heap.size, 0, none⟩) n n) (w.alloc (.cells cs.toArray TT)))
    (h : ∀ W b, b = w.heap.size → Blk W b TT cs → Kept [] w W → wpList Tryz.prog ops Q rest (a.put op.dst (.slice (some ⟨b, 0, none⟩) n n)) W) : wpList Tryz.prog ops Q (op :: rest) a w :=
  wpList_plain hgd fun K hK => by
    subst hp
    unfold Oper.wp execOp
    simp only [ho, Sem.run_bind, hr, Result.andThen_ok]
    exact hK _ _ (h _ _ rfl (Blk.new w TT cs) ((Kept.refl _ _).alloc _))
theorem bs69 (a b c : Nat) (w : World) : (Instr.buildSlice 69 4 #[(0, .pointer none), (1, P0 a), (2, P0 b), (3, P0 c)]).run Tryz.prog w = .ok (.slice (some ⟨w.heap.size, 0, none⟩) 4 4) (w.alloc (.cells [Value.pointer none, P0 a, P0 b, P0 c].toArray 32)) := by kernel_rfl
theorem bs70 (w : World) : (Instr.buildSlice 70 4 #[(0, aggV (jobC jK)), (1, aggV (jobC jK)), (2, aggV (jobC jK)), (3, aggV (jobC job0))]).run Tryz.prog w = .ok (.slice (some ⟨w.heap.size, 0, none⟩) 4 4) (w.alloc (.cells (jobC jK ++ jobC jK ++ jobC jK ++ jobC job0).toArray 23)) := by kernel_rfl
theorem bs71 (w : World) : (Instr.buildSlice 71 4 #[(0, .int .i64 1), (1, .int .i64 2), (2, .int .i64 2), (3, .int .i64 2)]).run Tryz.prog w = .ok (.slice (some ⟨w.heap.size, 0, none⟩) 4 4) (w.alloc (.cells [Value.int .i64 1, .int .i64 2, .int .i64 2, .int .i64 2].toArray 39)) := by kernel_rfl
theorem buildJ0 (w : World) : (Instr.build 23 #[]).run Tryz.prog w = .ok (aggV (jobC job0)) w := by kernel_rfl
theorem bad0 : first0 [qa (decide (0 < oSize none)) 1, qa (fitsB none jK) 2] = 1 := by kernel_rfl
theorem bad1 : first0 [qa (decide (0 < oSize (some (Dv.newDev 9 3)))) 1, qa (fitsB (some (Dv.newDev 9 3)) jK) 2] = 2 := by kernel_rfl
theorem bad2 : first0 [qa (decide (0 < oSize (some (Dv.newDev 26 2)))) 1, qa (fitsB (some (Dv.newDev 26 2)) jK) 2] = 2 := by kernel_rfl
theorem bad3 : first0 [qa (decide (0 < oSize (some kD0))) 1, qa (fitsB (some kD0) job0) 2] = 2 := by kernel_rfl
theorem rows4 {W : World} {bl bj bw a b c ga gb gc : Nat} (BL : Blk W bl 32 [.pointer none, P0 a, P0 b, P0 c]) (BJ : Blk W bj 23 (jobC jK ++ jobC jK ++ jobC jK ++ jobC job0)) (BW : Blk W bw 39 [.int .i64 1, .int .i64 2, .int .i64 2, .int .i64 2])
    (hA : Dv.Dv W a ga (Dv.newDev 9 3)) (hB : Dv.Dv W b gb (Dv.newDev 26 2)) (hC : Dv.Dv W c gc kD0) : ∀ i, i < 4 → ∃ ao o j x, Rw W bl bj bw i ao o j x := by
  intro i hi
  have hr : ∀ (off : Nat) (j : Job), (∀ q, q < 5 → (jobC jK ++ jobC jK ++ jobC jK ++ jobC job0)[off + q]? = (jobC j)[q]?) → W.rangeAt bj off (jobC j) := fun off j h => BJ.rangeIn _ (fun q hq => h q hq)
  match i, hi with
  | 0, _ => exact ⟨none, none, jK, 1, ⟨rfl, by decide, bad0⟩, fits_cell BL 0 _ rfl, hr 0 jK (fun q hq => by match q, hq with | 0, _ => rfl | 1, _ => rfl | 2, _ => rfl | 3, _ => rfl | 4, _ => rfl), fits_cell BW 0 _ rfl⟩
  | 1, _ => exact ⟨some ⟨a, 0, none⟩, some (Dv.newDev 9 3), jK, 2, ⟨⟨a, ga, rfl, hA⟩, by decide, bad1⟩, fits_cell BL 1 _ rfl, hr 5 jK (fun q hq => by match q, hq with | 0, _ => rfl | 1, _ => rfl | 2, _ => rfl | 3, _ => rfl | 4, _ => rfl), fits_cell BW 1 _ rfl⟩
  | 2, _ => exact ⟨some ⟨b, 0, none⟩, some (Dv.newDev 26 2), jK, 2, ⟨⟨b, gb, rfl, hB⟩, by decide, bad2⟩, fits_cell BL 2 _ rfl, hr 10 jK (fun q hq => by match q, hq with | 0, _ => rfl | 1, _ => rfl | 2, _ => rfl | 3, _ => rfl | 4, _ => rfl), fits_cell BW 2 _ rfl⟩
  | 3, _ => exact ⟨some ⟨c, 0, none⟩, some kD0, job0, 2, ⟨⟨c, gc, rfl, hC⟩, by decide, bad3⟩, fits_cell BL 3 _ rfl, hr 15 job0 (fun q hq => by match q, hq with | 0, _ => rfl | 1, _ => rfl | 2, _ => rfl | 3, _ => rfl | 4, _ => rfl), fits_cell BW 3 _ rfl⟩
theorem cg13 (vs : Array Value) (w : World) : (callFunc 13 vs).run Tryz.prog w = .ok (.enter 13 vs) w := by kernel_rfl
theorem cg30 (vs : Array Value) (w : World) : (callFunc 30 vs).run Tryz.prog w = .ok (.enter 30 vs) w := by kernel_rfl
theorem cg31 (vs : Array Value) (w : World) : (callFunc 31 vs).run Tryz.prog w = .ok (.enter 31 vs) w := by kernel_rfl
theorem cg32 (vs : Array Value) (w : World) : (callFunc 32 vs).run Tryz.prog w = .ok (.enter 32 vs) w := by kernel_rfl
theorem cg33 (vs : Array Value) (w : World) : (callFunc 33 vs).run Tryz.prog w = .ok (.enter 33 vs) w := by kernel_rfl
theorem cg34 (vs : Array Value) (w : World) : (callFunc 34 vs).run Tryz.prog w = .ok (.enter 34 vs) w := by kernel_rfl
theorem cg19 (vs : Array Value) (w : World) : (callFunc 19 vs).run Tryz.prog w = .ok (.enter 19 vs) w := by kernel_rfl
theorem cg35 (vs : Array Value) (w : World) : (callFunc 35 vs).run Tryz.prog w = .ok (.enter 35 vs) w := by kernel_rfl
/-- Ready's closure is made. -/
@[reducible] def SK (V : World) (ao : Option Addr) (j : Job) (d : Nat → Bool) (vs : Nat → Value) (W : World) : Prop := Kept [] V W ∧ (d 11 = true → ∃ c1 c2 c3, vs 11 = fnV 93 #[P0 c1, P0 c2, P0 c3] ∧ Blk W c1 32 [.pointer ao] ∧ Blk W c2 23 (jobC j) ∧ Blk W c3 29 (Vi.vwC vK)) ∧ (d 12 = true → d 11 = true ∧ vs 12 = vs 11)
theorem SK.loc {V : World} {ao : Option Addr} {j : Job} : ∀ d d' vs vs' W, (∀ k ∈ [11, 12], d k = d' k ∧ vs k = vs' k) → SK V ao j d vs W → SK V ao j d' vs' W := by
  intro d d' vs vs' W H h
  have e := H 11 (by simp)
  have e2 := H 12 (by simp)
  unfold SK at h ⊢
  rw [← e.1, ← e.2, ← e2.1, ← e2.2]
  exact h
theorem kD0_is : ups (Dv.newDev jK.sectors.1.toNat jK.n.toNat) jK.n.toNat = kD0 := by kernel_rfl
set_option maxHeartbeats 8000000 in
theorem nil_in (w : World) (hF : Vi.First w) : CallsIn Fence.wide 3 Tryz.prog 7 #[] w fun e w' => e = .returned (.bool true) ∧ Kept [] w w' := by
  have hFw := Vi.wideF
  have HF := hide hF
  clear hF
  refine callsIn_of_wp_marks Tryz.func7 rfl trivial ?_ rfl
  simp only [Tryz.ntmps7, List.size_toArray, List.length_cons, List.length_nil, Nat.reduceAdd, Nat.reduceSub, Array.replicate_succ, Array.replicate_zero, List.push_toArray, List.append_toArray, List.nil_append, List.cons_append]
  rw [wpIn_wide]
  have M : Hid (Mm [] w w []) := hide Mm.init
  go_wp2_with (
    first
    | (refine wpAllocW ([.bool false]) Vi.zero4 0 rfl rfl rfl ?_
       intro W1 b1 e1 B1 K1
       replace M : Hid (Mm [] w W1 [(b1, 4, [.bool false])]) := hide ((unhide M).new e1 B1 K1)
       clear e1 B1 K1
       refine Stp.go ?_))
  constructor
  go_wp2_with (
    first
    | (go_at_call 28
       refine (job28 _).mono ?_
       rintro e W2 ⟨rfl, K2⟩
       replace M : Hid (Mm [] w W2 [(b1, 4, [.bool false])]) := hide ((unhide M).step K2)
       clear K2
       refine Stp.go ?_))
  constructor
  go_wp2_with (
    first
    | (refine wpNew jrow (jobC job0) rfl zeroJ 1 rfl rfl rfl (.tmp 25) rfl rfl rfl (jobC jK) rfl (Ar.jobC_one _) (by kernel_rfl) (by kernel_rfl) ?_
       intro W3 b3 e3 B3 K3
       replace M : Hid (Mm [] w W3 [(b1, 4, [.bool false]), (b3, 23, jobC jK)]) := hide ((unhide M).new e3 B3 K3)
       clear e3 B3 K3
       refine Stp.go ?_))
  constructor
  go_wp2_with (
    first
    | (go_at_call 29
       refine (Dv.new_yes 9 3 _ rfl).mono ?_
       rintro e W4 ⟨d0, g0, rfl, -, -, hd, kx⟩
       have HD0 : Hid (Dv.Dv W4 d0 g0 (Dv.newDev 9 3)) := hd
       replace M : Hid (Mm [] w W4 [(b1, 4, [.bool false]), (b3, 23, jobC jK)]) := hide ((unhide M).step kx)
       clear hd kx
       refine Stp.go ?_))
  constructor
  go_wp2_with (
    first
    | (refine wpLoadA jrow rfl (.tmp 1) rfl b3 0 rfl (jobC jK) rfl ((unhide M).at 1 _ rfl).range ?_
       refine Stp.go ?_))
  constructor
  go_wp2_with (
    first
    | (go_at_call 25
       refine (rsect25 jK rfl _).mono ?_
       rintro e W5 ⟨rfl, kx⟩
       replace HD0 := hide ((unhide HD0).kept kx (by simp) (by simp))
       replace M : Hid (Mm [] w W5 [(b1, 4, [.bool false]), (b3, 23, jobC jK)]) := hide ((unhide M).step kx)
       clear kx
       rw [show (Ar.Job.sectors jK).1 = ((26 : Nat) : Int) by kernel_rfl]
       refine Stp.go ?_))
  constructor
  go_wp2_with (
    first
    | (go_at_call 29
       refine (Dv.new_yes 26 2 _ rfl).mono ?_
       rintro e W6 ⟨d1, g1, rfl, -, -, hd, kx⟩
       replace HD0 := hide ((unhide HD0).kept kx (by simp) (by simp))
       have HD1 : Hid (Dv.Dv W6 d1 g1 (Dv.newDev 26 2)) := hd
       replace M : Hid (Mm [] w W6 [(b1, 4, [.bool false]), (b3, 23, jobC jK)]) := hide ((unhide M).step kx)
       clear hd kx
       refine Stp.go ?_))
  constructor
  go_wp2_with (
    first
    | (refine wpLoadA jrow rfl (.tmp 1) rfl b3 0 rfl (jobC jK) rfl ((unhide M).at 1 _ rfl).range ?_
       refine Stp.go ?_))
  constructor
  go_wp2_with (
    first
    | (go_at_call 10
       refine (lnew10 jK rfl _).mono ?_
       rintro e W7 ⟨d2, g2, rfl, -, -, hd, kx⟩
       rw [kD0_is] at hd
       replace HD0 := hide ((unhide HD0).kept kx (by simp) (by simp))
       replace HD1 := hide ((unhide HD1).kept kx (by simp) (by simp))
       have HD2 := hide hd
       replace M : Hid (Mm [] w W7 [(b1, 4, [.bool false]), (b3, 23, jobC jK)]) := hide ((unhide M).step kx)
       clear hd kx
       refine Stp.go ?_))
  constructor
  go_wp2_with (
    first
    | (refine wpBsX rfl #[(0, .const (.pointer none)), (1, .tmp 36), (2, .tmp 37), (3, .tmp 39)] rfl #[(0, .pointer none), (1, P0 d0), (2, P0 d1), (3, P0 d2)] (by kernel_rfl) ([.pointer none, P0 d0, P0 d1, P0 d2]) (bs69 d0 d1 d2) ?_
       intro W8 b8 e8 B8 K8
       replace HD0 := hide ((unhide HD0).kept K8 (by simp) (by simp))
       replace HD1 := hide ((unhide HD1).kept K8 (by simp) (by simp))
       replace HD2 := hide ((unhide HD2).kept K8 (by simp) (by simp))
       replace M : Hid (Mm [] w W8 [(b1, 4, [.bool false]), (b3, 23, jobC jK), (b8, 32, [.pointer none, P0 d0, P0 d1, P0 d2])]) := hide ((unhide M).new e8 B8 K8)
       clear e8 B8 K8
       refine Stp.go ?_))
  constructor
  go_wp2_with (
    first
    | (refine wpLoadA jrow rfl (.tmp 1) rfl b3 0 rfl (jobC jK) rfl ((unhide M).at 1 _ rfl).range ?_
       refine Stp.go ?_))
  constructor
  go_wp2_with (
    first
    | (refine wpLoadA jrow rfl (.tmp 1) rfl b3 0 rfl (jobC jK) rfl ((unhide M).at 1 _ rfl).range ?_
       refine Stp.go ?_))
  constructor
  go_wp2_with (
    first
    | (refine wpLoadA jrow rfl (.tmp 1) rfl b3 0 rfl (jobC jK) rfl ((unhide M).at 1 _ rfl).range ?_
       refine Stp.go ?_))
  constructor
  go_wp2_with (
    first
    | (refine wpBuildZ (T := 23) (jobC job0) buildJ0 rfl rfl ?_
       refine Stp.go ?_))
  constructor
  go_wp2_with (
    first
    | (refine wpBsX rfl #[(0, .tmp 41), (1, .tmp 42), (2, .tmp 43), (3, .tmp 44)] rfl #[(0, aggV (jobC jK)), (1, aggV (jobC jK)), (2, aggV (jobC jK)), (3, aggV (jobC job0))] (by kernel_rfl) (jobC jK ++ jobC jK ++ jobC jK ++ jobC job0) (bs70) ?_
       intro W9 b9 e9 B9 K9
       replace HD0 := hide ((unhide HD0).kept K9 (by simp) (by simp))
       replace HD1 := hide ((unhide HD1).kept K9 (by simp) (by simp))
       replace HD2 := hide ((unhide HD2).kept K9 (by simp) (by simp))
       replace M : Hid (Mm [] w W9 [(b1, 4, [.bool false]), (b3, 23, jobC jK), (b8, 32, [.pointer none, P0 d0, P0 d1, P0 d2]), (b9, 23, jobC jK ++ jobC jK ++ jobC jK ++ jobC job0)]) := hide ((unhide M).new e9 B9 K9)
       clear e9 B9 K9
       refine Stp.go ?_))
  constructor
  go_wp2_with (
    first
    | (refine wpBsX rfl #[(0, .const (.int .i64 1)), (1, .const (.int .i64 2)), (2, .const (.int .i64 2)), (3, .const (.int .i64 2))] rfl #[(0, .int .i64 1), (1, .int .i64 2), (2, .int .i64 2), (3, .int .i64 2)] (by kernel_rfl) ([.int .i64 1, .int .i64 2, .int .i64 2, .int .i64 2]) (bs71) ?_
       intro W10 b10 e10 B10 K10
       replace HD0 := hide ((unhide HD0).kept K10 (by simp) (by simp))
       replace HD1 := hide ((unhide HD1).kept K10 (by simp) (by simp))
       replace HD2 := hide ((unhide HD2).kept K10 (by simp) (by simp))
       replace M : Hid (Mm [] w W10 [(b1, 4, [.bool false]), (b3, 23, jobC jK), (b8, 32, [.pointer none, P0 d0, P0 d1, P0 d2]), (b9, 23, jobC jK ++ jobC jK ++ jobC jK ++ jobC job0), (b10, 39, [.int .i64 1, .int .i64 2, .int .i64 2, .int .i64 2])]) := hide ((unhide M).new e10 B10 K10)
       clear e10 B10 K10
       refine Stp.go ?_))
  constructor
  go_wp2_with fail
  have HR4 := hide (rows4 ((unhide M).at 2 _ rfl) ((unhide M).at 3 _ rfl) ((unhide M).at 4 _ rfl) (unhide HD0) (unhide HD1) (unhide HD2))
  have HB0 : Hid (Blk W10 b1 4 [.bool false]) := (unhide M).at 0 _ rfl
  have HB0N : Hid (w.heap.size ≤ b1) := mm_new (unhide M) (b1, 4, [.bool false]) (by simp)
  have HKV : Hid (Kept [] w W10) := (unhide M).kept
  clear M HD0 HD1 HD2
  refine wp_loopK (fun a' W => ∃ (k : Nat) (Ds : List Nat) (X : Xs), a' = { tmps := List.toArray (P0 b1 :: P0 b3 :: P0 d0 :: .int .i64 0 :: P0 d1 :: .int .i64 0 :: .slice (some ⟨b8, 0, none⟩) 4 4 :: .slice (some ⟨b9, 0, none⟩) 4 4 :: .slice (some ⟨b10, 0, none⟩) 4 4 :: .int .i64 (k : Nat) :: X.f10 :: X.f11 :: X.f12 :: X.f13 :: X.f14 :: X.f15 :: X.f16 :: X.f17 :: X.f18 :: X.f19 :: X.f20 :: X.f21 :: X.f22 :: X.f23 :: X.f24 :: X.f25 :: X.f26 :: X.f27 :: X.f28 :: X.f29 :: X.f30 :: X.f31 :: X.f32 :: X.f33 :: X.f34 :: X.f35 :: X.f36 :: X.f37 :: X.f38 :: X.f39 :: X.f40 :: X.f41 :: X.f42 :: X.f43 :: X.f44 :: X.f45 :: X.f46 :: X.f47 :: X.f48 :: X.f49 :: X.f50 :: X.f51 :: X.f52 :: X.f53 :: X.f54 :: X.f55 :: X.f56 :: X.f57 :: X.f58 :: X.f59 :: X.f60 :: X.f61 :: X.f62 :: X.f63 :: X.f64 :: X.f65 :: X.f66 :: X.f67 :: X.f68 :: X.f69 :: X.f70 :: X.f71 :: X.f72 :: X.f73 :: X.f74 :: X.f75 :: X.f76 :: X.f77 :: X.f78 :: X.f79 :: X.f80 :: X.f81 :: X.f82 :: X.f83 :: X.f84 :: X.f85 :: X.f86 :: X.f87 :: X.f88 :: X.f89 :: X.f90 :: X.f91 :: X.f92 :: X.f93 :: X.f94 :: X.f95 :: X.f96 :: X.f97 :: X.f98 :: X.f99 :: X.f100 :: X.f101 :: X.f102 :: X.f103 :: X.f104 :: X.f105 :: X.f106 :: X.f107 :: X.f108 :: X.f109 :: X.f110 :: X.f111 :: X.f112 :: X.f113 :: X.f114 :: X.f115 :: X.f116 :: X.f117 :: X.f118 :: X.f119 :: X.f120 :: X.f121 :: X.f122 :: X.f123 :: X.f124 :: X.f125 :: X.f126 :: X.f127 :: X.f128 :: X.f129 :: X.f130 :: X.f131 :: X.f132 :: X.f133 :: X.f134 :: X.f135 :: X.f136 :: X.f137 :: X.f138 :: X.f139 :: X.f140 :: X.f141 :: X.f142 :: X.f143 :: X.f144 :: X.f145 :: X.f146 :: X.f147 :: X.f148 :: X.f149 :: X.f150 :: X.f151 :: X.f152 :: X.f153 :: X.f154 :: X.f155 :: X.f156 :: X.f157 :: X.f158 :: X.f159 :: X.f160 :: X.f161 :: X.f162 :: X.f163 :: X.f164 :: X.f165 :: X.f166 :: X.f167 :: X.f168 :: X.f169 :: X.f170 :: X.f171 :: X.f172 :: X.f173 :: X.f174 :: X.f175 :: X.f176 :: X.f177 :: X.f178 :: X.f179 :: X.f180 :: X.f181 :: X.f182 :: X.f183 :: X.f184 :: X.f185 :: X.f186 :: X.f187 :: X.f188 :: X.f189 :: X.f190 :: X.f191 :: X.f192 :: X.f193 :: X.f194 :: X.f195 :: X.f196 :: X.f197 :: X.f198 :: X.f199 :: X.f200 :: X.f201 :: X.f202 :: X.f203 :: X.f204 :: X.f205 :: X.f206 :: X.f207 :: X.f208 :: X.f209 :: X.f210 :: []), defers := marks Ds } ∧ k ≤ 4 ∧ Hid (Kept [] W10 W) ∧ Hid (Mks w W Ds)) (fun a' _ => 4 - (intOf (a'.tmps[9]?.getD undef)).toNat) ⟨0, [], ⟨_, _, _, _, _, _, _, _, _, _, _, _, _, _, _, _, _, _, _, _, _, _, _, _, _, _, _, _, _, _, _, _, _, _, _, _, _, _, _, _, _, _, _, _, _, _, _, _, _, _, _, _, _, _, _, _, _, _, _, _, _, _, _, _, _, _, _, _, _, _, _, _, _, _, _, _, _, _, _, _, _, _, _, _, _, _, _, _, _, _, _, _, _, _, _, _, _, _, _, _, _, _, _, _, _, _, _, _, _, _, _, _, _, _, _, _, _, _, _, _, _, _, _, _, _, _, _, _, _, _, _, _, _, _, _, _, _, _, _, _, _, _, _, _, _, _, _, _, _, _, _, _, _, _, _, _, _, _, _, _, _, _, _, _, _, _, _, _, _, _, _, _, _, _, _, _, _, _, _, _, _, _, _, _, _, _, _, _, _, _, _, _, _, _, _, _, _, _, _, _, _⟩, rfl, by omega, Kept.refl _ _, ⟨List.nodup_nil, fun D hD => by cases hD⟩⟩ ?_
  rintro a' wr K9 ⟨k, Ds, X, rfl, hk4, HK, HMK⟩ hKK
  have HKK := hide hKK
  clear hKK
  by_cases hlt : (k : Int) < 4
  · have hk : k < 4 := by omega
    obtain ⟨ao, o, j, x, hRw⟩ := unhide HR4 k hk
    have HRW := hide hRw
    have HKL := hide hk
    clear hRw
    go_wp2_with fail
    refine wp_region_any mixed (wpAny_gx 15 rfl (by kernel_rfl) [some (.slice (some ⟨b8, 0, none⟩) 4 4), some (.int .i64 (k : Nat)), some (.pointer (some ⟨b8, k, none⟩)), some (.pointer ao), some (.slice (some ⟨b9, 0, none⟩) 4 4), some (.int .i64 (k : Nat)), some (.pointer (some ⟨b9, k * 5, none⟩)), some (aggV (jobC j)), some (.tuple #[aggV (Vi.vwC Vi.zv), .int .i64 x]), some (.tuple #[aggV (Vi.vwC Vi.zv), .int .i64 x]), some (aggV (Vi.vwC Vi.zv)), some (.int .i64 x), none, none, some (.int .i64 x)] rfl (by kernel_rfl) (fun l vs W => (SN wr 29 19 12) (fun i => l.getD i false) vs W) (⟨(Kept.refl _ _).drew, fun h => by cases h⟩) ?_ ?_)
    · intro ix o' hi ho a' w2 l vs hls hlf hJ hout hin hdep hnot
      match ix, ho with
      | 0, ho =>
        obtain rfl := Option.some.inj ho
        have e0 := hout 6 (by kernel_rfl)
        replace e0 : a'.eval (.tmp 6) = _ := e0.trans rfl
        exact wp_move (.tmp 6) rfl _ e0 ⟨_, rfl, told_of rfl, Le.keepG (St := (SN wr 29 19 12)) [12] SN.loc (by omega) (by decide) hJ⟩
      | 1, ho =>
        obtain rfl := Option.some.inj ho
        have e0 := hout 9 (by kernel_rfl)
        replace e0 : a'.eval (.tmp 9) = _ := e0.trans rfl
        exact wp_move (.tmp 9) rfl _ e0 ⟨_, rfl, told_of rfl, Le.keepG (St := (SN wr 29 19 12)) [12] SN.loc (by omega) (by decide) hJ⟩
      | 2, ho =>
        obtain rfl := Option.some.inj ho
        have e0 : a'.eval (.tmp 52) = .slice (some ⟨b8, 0, none⟩) 4 4 := by have h9 := hin 0 52 (by kernel_rfl) (by kernel_rfl); exact h9.1.trans (told_is _ h9.2 rfl)
        have e1 : a'.eval (.tmp 53) = .int .i64 (k : Nat) := by have h9 := hin 1 53 (by kernel_rfl) (by kernel_rfl); exact h9.1.trans (told_is _ h9.2 rfl)
        exact o_idx69 (.tmp 52) (.tmp 53) rfl b8 4 4 k (unhide HKL) e0 e1 ⟨_, rfl, told_of rfl, Le.keepG (St := (SN wr 29 19 12)) [12] SN.loc (by omega) (by decide) hJ⟩
      | 3, ho =>
        obtain rfl := Option.some.inj ho
        have e0 : a'.eval (.tmp 54) = .pointer (some ⟨b8, k, none⟩) := by have h9 := hin 2 54 (by kernel_rfl) (by kernel_rfl); exact h9.1.trans (told_is _ h9.2 rfl)
        exact o_load32 (.tmp 54) rfl _ _ e0 ((unhide HRW).k ((unhide HK).trans hJ.1)).dev ⟨_, rfl, told_of rfl, Le.keepG (St := (SN wr 29 19 12)) [12] SN.loc (by omega) (by decide) hJ⟩
      | 4, ho =>
        obtain rfl := Option.some.inj ho
        have e0 := hout 7 (by kernel_rfl)
        replace e0 : a'.eval (.tmp 7) = _ := e0.trans rfl
        exact wp_move (.tmp 7) rfl _ e0 ⟨_, rfl, told_of rfl, Le.keepG (St := (SN wr 29 19 12)) [12] SN.loc (by omega) (by decide) hJ⟩
      | 5, ho =>
        obtain rfl := Option.some.inj ho
        have e0 := hout 9 (by kernel_rfl)
        replace e0 : a'.eval (.tmp 9) = _ := e0.trans rfl
        exact wp_move (.tmp 9) rfl _ e0 ⟨_, rfl, told_of rfl, Le.keepG (St := (SN wr 29 19 12)) [12] SN.loc (by omega) (by decide) hJ⟩
      | 6, ho =>
        obtain rfl := Option.some.inj ho
        have e0 : a'.eval (.tmp 56) = .slice (some ⟨b9, 0, none⟩) 4 4 := by have h9 := hin 4 56 (by kernel_rfl) (by kernel_rfl); exact h9.1.trans (told_is _ h9.2 rfl)
        have e1 : a'.eval (.tmp 57) = .int .i64 (k : Nat) := by have h9 := hin 5 57 (by kernel_rfl) (by kernel_rfl); exact h9.1.trans (told_is _ h9.2 rfl)
        exact o_idx70 (.tmp 56) (.tmp 57) rfl b9 4 4 k (unhide HKL) e0 e1 ⟨_, rfl, told_of rfl, Le.keepG (St := (SN wr 29 19 12)) [12] SN.loc (by omega) (by decide) hJ⟩
      | 7, ho =>
        obtain rfl := Option.some.inj ho
        have e0 : a'.eval (.tmp 58) = .pointer (some ⟨b9, k * 5, none⟩) := by have h9 := hin 6 58 (by kernel_rfl) (by kernel_rfl); exact h9.1.trans (told_is _ h9.2 rfl)
        exact wp_loadA jrow (.tmp 58) rfl b9 (k * 5) e0 (jobC j) rfl ((unhide HRW).k ((unhide HK).trans hJ.1)).jobs ⟨_, rfl, told_of rfl, Le.keepG (St := (SN wr 29 19 12)) [12] SN.loc (by omega) (by decide) hJ⟩
      | 8, ho =>
        obtain rfl := Option.some.inj ho
        have e0 : a'.eval (.tmp 55) = .pointer ao := by have h9 := hin 3 55 (by kernel_rfl) (by kernel_rfl); exact h9.1.trans (told_is _ h9.2 rfl)
        have e1 : a'.eval (.tmp 59) = aggV (jobC j) := by have h9 := hin 7 59 (by kernel_rfl) (by kernel_rfl); exact h9.1.trans (told_is _ h9.2 rfl)
        refine wp_callF 13 _ _ rfl #[.pointer ao, aggV (jobC j)] (by simp [e0, e1]) (cg13 _ _) ((view_bad ((unhide HRW).k ((unhide HK).trans hJ.1)).bad ((unhide HF).kept ((unhide HKV).trans ((unhide HK).trans hJ.1)))).mono ?_)
        rintro e w3 ⟨rfl, hk3⟩
        exact ⟨_, rfl, _, rfl, told_of rfl, Le.keepG (St := (SN wr 29 19 12)) [12] SN.loc (by omega) (by decide) (SN.step hJ hk3)⟩
      | 9, ho =>
        obtain rfl := Option.some.inj ho
        have e0 : a'.eval (.tmp 60) = .tuple #[aggV (Vi.vwC Vi.zv), .int .i64 x] := by have h9 := hin 8 60 (by kernel_rfl) (by kernel_rfl); exact h9.1.trans (told_is _ h9.2 rfl)
        exact wp_move (.tmp 60) rfl _ e0 ⟨_, rfl, told_of rfl, Le.keepG (St := (SN wr 29 19 12)) [12] SN.loc (by omega) (by decide) hJ⟩
      | 10, ho =>
        obtain rfl := Option.some.inj ho
        have e0 : a'.eval (.tmp 51) = .tuple #[aggV (Vi.vwC Vi.zv), .int .i64 x] := by have h9 := hin 9 51 (by kernel_rfl) (by kernel_rfl); exact h9.1.trans (told_is _ h9.2 rfl)
        exact o_ext (.tmp 51) 0 rfl _ _ e0 rfl ⟨_, rfl, told_of rfl, Le.keepG (St := (SN wr 29 19 12)) [12] SN.loc (by omega) (by decide) hJ⟩
      | 11, ho =>
        obtain rfl := Option.some.inj ho
        have e0 : a'.eval (.tmp 51) = .tuple #[aggV (Vi.vwC Vi.zv), .int .i64 x] := by have h9 := hin 9 51 (by kernel_rfl) (by kernel_rfl); exact h9.1.trans (told_is _ h9.2 rfl)
        exact o_ext (.tmp 51) 1 rfl _ _ e0 rfl ⟨_, rfl, told_of rfl, Le.keepG (St := (SN wr 29 19 12)) [12] SN.loc (by omega) (by decide) hJ⟩
      | 12, ho =>
        obtain rfl := Option.some.inj ho
        exact wp_allocA (Vi.vwC Vi.zv) Vi.zero26 rfl ⟨_, rfl, told_no rfl, Le.nextG (St := (SN wr 29 19 12)) (by omega) (SN.alloc hJ (Vi.vwC Vi.zv) rfl)⟩
      | 13, ho =>
        obtain rfl := Option.some.inj ho
        have e0 : a'.eval (.tmp 10) = vs 12 := (hin 12 10 (by kernel_rfl) (by kernel_rfl)).1
        have e1 : a'.eval (.tmp 61) = aggV (Vi.vwC Vi.zv) := by have h9 := hin 10 61 (by kernel_rfl) (by kernel_rfl); exact h9.1.trans (told_is _ h9.2 rfl)
        obtain ⟨p, us, hp, hge, hul, hb⟩ := hJ.2 (hdep 12 (by kernel_rfl))
        exact wp_storeN Vi.row26 (.tmp 10) (.tmp 61) rfl rfl p 0 (Vi.vwC Vi.zv) (e0.trans hp) e1 rfl (Vi.vwC_one _) (hb.there (by omega)) ⟨undef, rfl, told_no rfl, Le.keepG (St := (SN wr 29 19 12)) [12] SN.loc (by omega) (by decide) (SN.fill hJ hp hge hb hul rfl)⟩
      | 14, ho =>
        obtain rfl := Option.some.inj ho
        have e0 : a'.eval (.tmp 62) = .int .i64 x := by have h9 := hin 11 62 (by kernel_rfl) (by kernel_rfl); exact h9.1.trans (told_is _ h9.2 rfl)
        exact wp_assignV (.tmp 62) rfl _ e0 ⟨_, rfl, told_of rfl, Le.keepG (St := (SN wr 29 19 12)) [12] SN.loc (by omega) (by decide) hJ⟩
    intro l_ vs_V10 V10 hl hJ htold
    have t0 : vs_V10 0 = .slice (some ⟨b8, 0, none⟩) 4 4 := told_is _ (htold 0 (by decide)) rfl
    have t1 : vs_V10 1 = .int .i64 (k : Nat) := told_is _ (htold 1 (by decide)) rfl
    have t2 : vs_V10 2 = .pointer (some ⟨b8, k, none⟩) := told_is _ (htold 2 (by decide)) rfl
    have t3 : vs_V10 3 = .pointer ao := told_is _ (htold 3 (by decide)) rfl
    have t4 : vs_V10 4 = .slice (some ⟨b9, 0, none⟩) 4 4 := told_is _ (htold 4 (by decide)) rfl
    have t5 : vs_V10 5 = .int .i64 (k : Nat) := told_is _ (htold 5 (by decide)) rfl
    have t6 : vs_V10 6 = .pointer (some ⟨b9, k * 5, none⟩) := told_is _ (htold 6 (by decide)) rfl
    have t7 : vs_V10 7 = aggV (jobC j) := told_is _ (htold 7 (by decide)) rfl
    have t8 : vs_V10 8 = .tuple #[aggV (Vi.vwC Vi.zv), .int .i64 x] := told_is _ (htold 8 (by decide)) rfl
    have t9 : vs_V10 9 = .tuple #[aggV (Vi.vwC Vi.zv), .int .i64 x] := told_is _ (htold 9 (by decide)) rfl
    have t10 : vs_V10 10 = aggV (Vi.vwC Vi.zv) := told_is _ (htold 10 (by decide)) rfl
    have t11 : vs_V10 11 = .int .i64 x := told_is _ (htold 11 (by decide)) rfl
    have t14 : vs_V10 14 = .int .i64 x := told_is _ (htold 14 (by decide)) rfl
    rw [show (List.range 15).map vs_V10 = [vs_V10 0, vs_V10 1, vs_V10 2, vs_V10 3, vs_V10 4, vs_V10 5, vs_V10 6, vs_V10 7, vs_V10 8, vs_V10 9, vs_V10 10, vs_V10 11, vs_V10 12, vs_V10 13, vs_V10 14] from rfl]
    simp only [t0, t1, t2, t3, t4, t5, t6, t7, t8, t9, t10, t11, t14, putAll, Act.put, List.setIfInBounds_toArray, List.set_cons_succ, List.set_cons_zero]
    clear t0 t1 t2 t3 t4 t5 t6 t7 t8 t9 t10 t11 t14 htold
    generalize vs_V10 12 = u10
    replace HMK := hide ((unhide HMK).kept0 hJ.1)
    replace HK := hide ((unhide HK).trans hJ.1)
    clear hJ hl
    go_wp2_with fail
    refine wp_region_any mixed (wpAny_gx 15 rfl (by kernel_rfl) [some (.slice (some ⟨b8, 0, none⟩) 4 4), some (.int .i64 (k : Nat)), some (.pointer (some ⟨b8, k, none⟩)), some (.pointer ao), some (.slice (some ⟨b9, 0, none⟩) 4 4), some (.int .i64 (k : Nat)), some (.pointer (some ⟨b9, k * 5, none⟩)), some (aggV (jobC j)), some (.tuple #[aggV (Le.le0.C), .int .i64 x]), some (.tuple #[aggV (Le.le0.C), .int .i64 x]), some (aggV (Le.le0.C)), some (.int .i64 x), none, none, some (.int .i64 x)] rfl (by kernel_rfl) (fun l vs W => (SN V10 73 3 12) (fun i => l.getD i false) vs W) (⟨(Kept.refl _ _).drew, fun h => by cases h⟩) ?_ ?_)
    · intro ix o' hi ho a' w2 l vs hls hlf hJ hout hin hdep hnot
      match ix, ho with
      | 0, ho =>
        obtain rfl := Option.some.inj ho
        have e0 := hout 6 (by kernel_rfl)
        replace e0 : a'.eval (.tmp 6) = _ := e0.trans rfl
        exact wp_move (.tmp 6) rfl _ e0 ⟨_, rfl, told_of rfl, Le.keepG (St := (SN V10 73 3 12)) [12] SN.loc (by omega) (by decide) hJ⟩
      | 1, ho =>
        obtain rfl := Option.some.inj ho
        have e0 := hout 9 (by kernel_rfl)
        replace e0 : a'.eval (.tmp 9) = _ := e0.trans rfl
        exact wp_move (.tmp 9) rfl _ e0 ⟨_, rfl, told_of rfl, Le.keepG (St := (SN V10 73 3 12)) [12] SN.loc (by omega) (by decide) hJ⟩
      | 2, ho =>
        obtain rfl := Option.some.inj ho
        have e0 : a'.eval (.tmp 64) = .slice (some ⟨b8, 0, none⟩) 4 4 := by have h9 := hin 0 64 (by kernel_rfl) (by kernel_rfl); exact h9.1.trans (told_is _ h9.2 rfl)
        have e1 : a'.eval (.tmp 65) = .int .i64 (k : Nat) := by have h9 := hin 1 65 (by kernel_rfl) (by kernel_rfl); exact h9.1.trans (told_is _ h9.2 rfl)
        exact o_idx69 (.tmp 64) (.tmp 65) rfl b8 4 4 k (unhide HKL) e0 e1 ⟨_, rfl, told_of rfl, Le.keepG (St := (SN V10 73 3 12)) [12] SN.loc (by omega) (by decide) hJ⟩
      | 3, ho =>
        obtain rfl := Option.some.inj ho
        have e0 : a'.eval (.tmp 66) = .pointer (some ⟨b8, k, none⟩) := by have h9 := hin 2 66 (by kernel_rfl) (by kernel_rfl); exact h9.1.trans (told_is _ h9.2 rfl)
        exact o_load32 (.tmp 66) rfl _ _ e0 ((unhide HRW).k ((unhide HK).trans hJ.1)).dev ⟨_, rfl, told_of rfl, Le.keepG (St := (SN V10 73 3 12)) [12] SN.loc (by omega) (by decide) hJ⟩
      | 4, ho =>
        obtain rfl := Option.some.inj ho
        have e0 := hout 7 (by kernel_rfl)
        replace e0 : a'.eval (.tmp 7) = _ := e0.trans rfl
        exact wp_move (.tmp 7) rfl _ e0 ⟨_, rfl, told_of rfl, Le.keepG (St := (SN V10 73 3 12)) [12] SN.loc (by omega) (by decide) hJ⟩
      | 5, ho =>
        obtain rfl := Option.some.inj ho
        have e0 := hout 9 (by kernel_rfl)
        replace e0 : a'.eval (.tmp 9) = _ := e0.trans rfl
        exact wp_move (.tmp 9) rfl _ e0 ⟨_, rfl, told_of rfl, Le.keepG (St := (SN V10 73 3 12)) [12] SN.loc (by omega) (by decide) hJ⟩
      | 6, ho =>
        obtain rfl := Option.some.inj ho
        have e0 : a'.eval (.tmp 68) = .slice (some ⟨b9, 0, none⟩) 4 4 := by have h9 := hin 4 68 (by kernel_rfl) (by kernel_rfl); exact h9.1.trans (told_is _ h9.2 rfl)
        have e1 : a'.eval (.tmp 69) = .int .i64 (k : Nat) := by have h9 := hin 5 69 (by kernel_rfl) (by kernel_rfl); exact h9.1.trans (told_is _ h9.2 rfl)
        exact o_idx70 (.tmp 68) (.tmp 69) rfl b9 4 4 k (unhide HKL) e0 e1 ⟨_, rfl, told_of rfl, Le.keepG (St := (SN V10 73 3 12)) [12] SN.loc (by omega) (by decide) hJ⟩
      | 7, ho =>
        obtain rfl := Option.some.inj ho
        have e0 : a'.eval (.tmp 70) = .pointer (some ⟨b9, k * 5, none⟩) := by have h9 := hin 6 70 (by kernel_rfl) (by kernel_rfl); exact h9.1.trans (told_is _ h9.2 rfl)
        exact wp_loadA jrow (.tmp 70) rfl b9 (k * 5) e0 (jobC j) rfl ((unhide HRW).k ((unhide HK).trans hJ.1)).jobs ⟨_, rfl, told_of rfl, Le.keepG (St := (SN V10 73 3 12)) [12] SN.loc (by omega) (by decide) hJ⟩
      | 8, ho =>
        obtain rfl := Option.some.inj ho
        have e0 : a'.eval (.tmp 67) = .pointer ao := by have h9 := hin 3 67 (by kernel_rfl) (by kernel_rfl); exact h9.1.trans (told_is _ h9.2 rfl)
        have e1 : a'.eval (.tmp 71) = aggV (jobC j) := by have h9 := hin 7 71 (by kernel_rfl) (by kernel_rfl); exact h9.1.trans (told_is _ h9.2 rfl)
        refine wp_callF 30 _ _ rfl #[.pointer ao, aggV (jobC j), .int .i64 0] (by simp [e0, e1]; first | rfl | exact ⟨rfl, rfl⟩ | exact ⟨rfl, rfl, rfl⟩) (cg30 _ _) ((lease_bad ((unhide HRW).k ((unhide HK).trans hJ.1)).bad 0).mono ?_)
        rintro e w3 ⟨rfl, hk3⟩
        exact ⟨_, rfl, _, rfl, told_of rfl, Le.keepG (St := (SN V10 73 3 12)) [12] SN.loc (by omega) (by decide) (SN.step hJ hk3)⟩
      | 9, ho =>
        obtain rfl := Option.some.inj ho
        have e0 : a'.eval (.tmp 72) = .tuple #[aggV (Le.le0.C), .int .i64 x] := by have h9 := hin 8 72 (by kernel_rfl) (by kernel_rfl); exact h9.1.trans (told_is _ h9.2 rfl)
        exact wp_move (.tmp 72) rfl _ e0 ⟨_, rfl, told_of rfl, Le.keepG (St := (SN V10 73 3 12)) [12] SN.loc (by omega) (by decide) hJ⟩
      | 10, ho =>
        obtain rfl := Option.some.inj ho
        have e0 : a'.eval (.tmp 63) = .tuple #[aggV (Le.le0.C), .int .i64 x] := by have h9 := hin 9 63 (by kernel_rfl) (by kernel_rfl); exact h9.1.trans (told_is _ h9.2 rfl)
        exact o_ext (.tmp 63) 0 rfl _ _ e0 rfl ⟨_, rfl, told_of rfl, Le.keepG (St := (SN V10 73 3 12)) [12] SN.loc (by omega) (by decide) hJ⟩
      | 11, ho =>
        obtain rfl := Option.some.inj ho
        have e0 : a'.eval (.tmp 63) = .tuple #[aggV (Le.le0.C), .int .i64 x] := by have h9 := hin 9 63 (by kernel_rfl) (by kernel_rfl); exact h9.1.trans (told_is _ h9.2 rfl)
        exact o_ext (.tmp 63) 1 rfl _ _ e0 rfl ⟨_, rfl, told_of rfl, Le.keepG (St := (SN V10 73 3 12)) [12] SN.loc (by omega) (by decide) hJ⟩
      | 12, ho =>
        obtain rfl := Option.some.inj ho
        exact wp_allocA (Le.le0.C) Le.zero23 rfl ⟨_, rfl, told_no rfl, Le.nextG (St := (SN V10 73 3 12)) (by omega) (SN.alloc hJ (Le.le0.C) rfl)⟩
      | 13, ho =>
        obtain rfl := Option.some.inj ho
        have e0 : a'.eval (.tmp 12) = vs 12 := (hin 12 12 (by kernel_rfl) (by kernel_rfl)).1
        have e1 : a'.eval (.tmp 73) = aggV (Le.le0.C) := by have h9 := hin 10 73 (by kernel_rfl) (by kernel_rfl); exact h9.1.trans (told_is _ h9.2 rfl)
        obtain ⟨p, us, hp, hge, hul, hb⟩ := hJ.2 (hdep 12 (by kernel_rfl))
        exact wp_storeN Le.row23 (.tmp 12) (.tmp 73) rfl rfl p 0 (Le.le0.C) (e0.trans hp) e1 rfl (Le.leC_one _) (hb.there (by omega)) ⟨undef, rfl, told_no rfl, Le.keepG (St := (SN V10 73 3 12)) [12] SN.loc (by omega) (by decide) (SN.fill hJ hp hge hb hul rfl)⟩
      | 14, ho =>
        obtain rfl := Option.some.inj ho
        have e0 : a'.eval (.tmp 74) = .int .i64 x := by have h9 := hin 11 74 (by kernel_rfl) (by kernel_rfl); exact h9.1.trans (told_is _ h9.2 rfl)
        exact wp_assignV (.tmp 74) rfl _ e0 ⟨_, rfl, told_of rfl, Le.keepG (St := (SN V10 73 3 12)) [12] SN.loc (by omega) (by decide) hJ⟩
    intro l_ vs_V11 V11 hl hJ htold
    have t0 : vs_V11 0 = .slice (some ⟨b8, 0, none⟩) 4 4 := told_is _ (htold 0 (by decide)) rfl
    have t1 : vs_V11 1 = .int .i64 (k : Nat) := told_is _ (htold 1 (by decide)) rfl
    have t2 : vs_V11 2 = .pointer (some ⟨b8, k, none⟩) := told_is _ (htold 2 (by decide)) rfl
    have t3 : vs_V11 3 = .pointer ao := told_is _ (htold 3 (by decide)) rfl
    have t4 : vs_V11 4 = .slice (some ⟨b9, 0, none⟩) 4 4 := told_is _ (htold 4 (by decide)) rfl
    have t5 : vs_V11 5 = .int .i64 (k : Nat) := told_is _ (htold 5 (by decide)) rfl
    have t6 : vs_V11 6 = .pointer (some ⟨b9, k * 5, none⟩) := told_is _ (htold 6 (by decide)) rfl
    have t7 : vs_V11 7 = aggV (jobC j) := told_is _ (htold 7 (by decide)) rfl
    have t8 : vs_V11 8 = .tuple #[aggV (Le.le0.C), .int .i64 x] := told_is _ (htold 8 (by decide)) rfl
    have t9 : vs_V11 9 = .tuple #[aggV (Le.le0.C), .int .i64 x] := told_is _ (htold 9 (by decide)) rfl
    have t10 : vs_V11 10 = aggV (Le.le0.C) := told_is _ (htold 10 (by decide)) rfl
    have t11 : vs_V11 11 = .int .i64 x := told_is _ (htold 11 (by decide)) rfl
    have t14 : vs_V11 14 = .int .i64 x := told_is _ (htold 14 (by decide)) rfl
    rw [show (List.range 15).map vs_V11 = [vs_V11 0, vs_V11 1, vs_V11 2, vs_V11 3, vs_V11 4, vs_V11 5, vs_V11 6, vs_V11 7, vs_V11 8, vs_V11 9, vs_V11 10, vs_V11 11, vs_V11 12, vs_V11 13, vs_V11 14] from rfl]
    simp only [t0, t1, t2, t3, t4, t5, t6, t7, t8, t9, t10, t11, t14, putAll, Act.put, List.setIfInBounds_toArray, List.set_cons_succ, List.set_cons_zero]
    clear t0 t1 t2 t3 t4 t5 t6 t7 t8 t9 t10 t11 t14 htold
    generalize vs_V11 12 = u12
    replace HMK := hide ((unhide HMK).kept0 hJ.1)
    replace HK := hide ((unhide HK).trans hJ.1)
    clear hJ hl
    go_wp2_with fail
    refine wp_region_any mixed (wpAny_gx 11 rfl (by kernel_rfl) [some (.slice (some ⟨b8, 0, none⟩) 4 4), some (.int .i64 (k : Nat)), some (.pointer (some ⟨b8, k, none⟩)), some (.pointer ao), some (.slice (some ⟨b9, 0, none⟩) 4 4), some (.int .i64 (k : Nat)), some (.pointer (some ⟨b9, k * 5, none⟩)), some (aggV (jobC j)), some (aggV (Le.Le.C ⟨1, 0, 0⟩)), some (.int .i64 x), some (.int .i64 x)] rfl (by kernel_rfl) (fun l vs W => (SN V11 29 19 50) (fun i => l.getD i false) vs W) (⟨(Kept.refl _ _).drew, fun h => by cases h⟩) ?_ ?_)
    · intro ix o' hi ho a' w2 l vs hls hlf hJ hout hin hdep hnot
      match ix, ho with
      | 0, ho =>
        obtain rfl := Option.some.inj ho
        have e0 := hout 6 (by kernel_rfl)
        replace e0 : a'.eval (.tmp 6) = _ := e0.trans rfl
        exact wp_move (.tmp 6) rfl _ e0 ⟨_, rfl, told_of rfl, Le.keepG (St := (SN V11 29 19 50)) [50] SN.loc (by omega) (by decide) hJ⟩
      | 1, ho =>
        obtain rfl := Option.some.inj ho
        have e0 := hout 9 (by kernel_rfl)
        replace e0 : a'.eval (.tmp 9) = _ := e0.trans rfl
        exact wp_move (.tmp 9) rfl _ e0 ⟨_, rfl, told_of rfl, Le.keepG (St := (SN V11 29 19 50)) [50] SN.loc (by omega) (by decide) hJ⟩
      | 2, ho =>
        obtain rfl := Option.some.inj ho
        have e0 : a'.eval (.tmp 75) = .slice (some ⟨b8, 0, none⟩) 4 4 := by have h9 := hin 0 75 (by kernel_rfl) (by kernel_rfl); exact h9.1.trans (told_is _ h9.2 rfl)
        have e1 : a'.eval (.tmp 76) = .int .i64 (k : Nat) := by have h9 := hin 1 76 (by kernel_rfl) (by kernel_rfl); exact h9.1.trans (told_is _ h9.2 rfl)
        exact o_idx69 (.tmp 75) (.tmp 76) rfl b8 4 4 k (unhide HKL) e0 e1 ⟨_, rfl, told_of rfl, Le.keepG (St := (SN V11 29 19 50)) [50] SN.loc (by omega) (by decide) hJ⟩
      | 3, ho =>
        obtain rfl := Option.some.inj ho
        have e0 : a'.eval (.tmp 77) = .pointer (some ⟨b8, k, none⟩) := by have h9 := hin 2 77 (by kernel_rfl) (by kernel_rfl); exact h9.1.trans (told_is _ h9.2 rfl)
        exact o_load32 (.tmp 77) rfl _ _ e0 ((unhide HRW).k ((unhide HK).trans hJ.1)).dev ⟨_, rfl, told_of rfl, Le.keepG (St := (SN V11 29 19 50)) [50] SN.loc (by omega) (by decide) hJ⟩
      | 4, ho =>
        obtain rfl := Option.some.inj ho
        have e0 := hout 7 (by kernel_rfl)
        replace e0 : a'.eval (.tmp 7) = _ := e0.trans rfl
        exact wp_move (.tmp 7) rfl _ e0 ⟨_, rfl, told_of rfl, Le.keepG (St := (SN V11 29 19 50)) [50] SN.loc (by omega) (by decide) hJ⟩
      | 5, ho =>
        obtain rfl := Option.some.inj ho
        have e0 := hout 9 (by kernel_rfl)
        replace e0 : a'.eval (.tmp 9) = _ := e0.trans rfl
        exact wp_move (.tmp 9) rfl _ e0 ⟨_, rfl, told_of rfl, Le.keepG (St := (SN V11 29 19 50)) [50] SN.loc (by omega) (by decide) hJ⟩
      | 6, ho =>
        obtain rfl := Option.some.inj ho
        have e0 : a'.eval (.tmp 79) = .slice (some ⟨b9, 0, none⟩) 4 4 := by have h9 := hin 4 79 (by kernel_rfl) (by kernel_rfl); exact h9.1.trans (told_is _ h9.2 rfl)
        have e1 : a'.eval (.tmp 80) = .int .i64 (k : Nat) := by have h9 := hin 5 80 (by kernel_rfl) (by kernel_rfl); exact h9.1.trans (told_is _ h9.2 rfl)
        exact o_idx70 (.tmp 79) (.tmp 80) rfl b9 4 4 k (unhide HKL) e0 e1 ⟨_, rfl, told_of rfl, Le.keepG (St := (SN V11 29 19 50)) [50] SN.loc (by omega) (by decide) hJ⟩
      | 7, ho =>
        obtain rfl := Option.some.inj ho
        have e0 : a'.eval (.tmp 81) = .pointer (some ⟨b9, k * 5, none⟩) := by have h9 := hin 6 81 (by kernel_rfl) (by kernel_rfl); exact h9.1.trans (told_is _ h9.2 rfl)
        exact wp_loadA jrow (.tmp 81) rfl b9 (k * 5) e0 (jobC j) rfl ((unhide HRW).k ((unhide HK).trans hJ.1)).jobs ⟨_, rfl, told_of rfl, Le.keepG (St := (SN V11 29 19 50)) [50] SN.loc (by omega) (by decide) hJ⟩
      | 8, ho =>
        obtain rfl := Option.some.inj ho
        exact wp_buildP #[(0, .const (.int .i64 1))] rfl #[(0, .int .i64 1)] (by simp [Act.eval]) (Le.Le.C ⟨1, 0, 0⟩) (bldKL _) ⟨_, rfl, told_of rfl, Le.keepG (St := (SN V11 29 19 50)) [50] SN.loc (by omega) (by decide) hJ⟩
      | 9, ho =>
        obtain rfl := Option.some.inj ho
        have e0 : a'.eval (.tmp 78) = .pointer ao := by have h9 := hin 3 78 (by kernel_rfl) (by kernel_rfl); exact h9.1.trans (told_is _ h9.2 rfl)
        have e1 : a'.eval (.tmp 82) = aggV (jobC j) := by have h9 := hin 7 82 (by kernel_rfl) (by kernel_rfl); exact h9.1.trans (told_is _ h9.2 rfl)
        have e2 : a'.eval (.tmp 83) = aggV (Le.Le.C ⟨1, 0, 0⟩) := by have h9 := hin 8 83 (by kernel_rfl) (by kernel_rfl); exact h9.1.trans (told_is _ h9.2 rfl)
        refine wp_callF 31 _ _ rfl #[.pointer ao, aggV (jobC j), .int .i64 0, aggV (Le.Le.C ⟨1, 0, 0⟩)] (by simp [e0, e1, e2]; rfl) (cg31 _ _) ((say_bad ((unhide HRW).k ((unhide HK).trans hJ.1)).bad 0 ⟨1, 0, 0⟩).mono ?_)
        rintro e w3 ⟨rfl, hk3⟩
        exact ⟨_, rfl, _, rfl, told_of rfl, Le.keepG (St := (SN V11 29 19 50)) [50] SN.loc (by omega) (by decide) (SN.step hJ hk3)⟩
      | 10, ho =>
        obtain rfl := Option.some.inj ho
        have e0 : a'.eval (.tmp 84) = .int .i64 x := by have h9 := hin 9 84 (by kernel_rfl) (by kernel_rfl); exact h9.1.trans (told_is _ h9.2 rfl)
        exact wp_assignV (.tmp 84) rfl _ e0 ⟨_, rfl, told_of rfl, Le.keepG (St := (SN V11 29 19 50)) [50] SN.loc (by omega) (by decide) hJ⟩
    intro l_ vs_V12 V12 hl hJ htold
    have t0 : vs_V12 0 = .slice (some ⟨b8, 0, none⟩) 4 4 := told_is _ (htold 0 (by decide)) rfl
    have t1 : vs_V12 1 = .int .i64 (k : Nat) := told_is _ (htold 1 (by decide)) rfl
    have t2 : vs_V12 2 = .pointer (some ⟨b8, k, none⟩) := told_is _ (htold 2 (by decide)) rfl
    have t3 : vs_V12 3 = .pointer ao := told_is _ (htold 3 (by decide)) rfl
    have t4 : vs_V12 4 = .slice (some ⟨b9, 0, none⟩) 4 4 := told_is _ (htold 4 (by decide)) rfl
    have t5 : vs_V12 5 = .int .i64 (k : Nat) := told_is _ (htold 5 (by decide)) rfl
    have t6 : vs_V12 6 = .pointer (some ⟨b9, k * 5, none⟩) := told_is _ (htold 6 (by decide)) rfl
    have t7 : vs_V12 7 = aggV (jobC j) := told_is _ (htold 7 (by decide)) rfl
    have t8 : vs_V12 8 = aggV (Le.Le.C ⟨1, 0, 0⟩) := told_is _ (htold 8 (by decide)) rfl
    have t9 : vs_V12 9 = .int .i64 x := told_is _ (htold 9 (by decide)) rfl
    have t10 : vs_V12 10 = .int .i64 x := told_is _ (htold 10 (by decide)) rfl
    rw [show (List.range 11).map vs_V12 = [vs_V12 0, vs_V12 1, vs_V12 2, vs_V12 3, vs_V12 4, vs_V12 5, vs_V12 6, vs_V12 7, vs_V12 8, vs_V12 9, vs_V12 10] from rfl]
    simp only [t0, t1, t2, t3, t4, t5, t6, t7, t8, t9, t10, putAll, Act.put, List.setIfInBounds_toArray, List.set_cons_succ, List.set_cons_zero]
    clear t0 t1 t2 t3 t4 t5 t6 t7 t8 t9 t10 htold
    replace HMK := hide ((unhide HMK).kept0 hJ.1)
    replace HK := hide ((unhide HK).trans hJ.1)
    clear hJ hl
    go_wp2_with fail
    refine wp_region_any mixed (wpAny_gx 17 rfl (by kernel_rfl) [some (.slice (some ⟨b8, 0, none⟩) 4 4), some (.int .i64 (k : Nat)), some (.pointer (some ⟨b8, k, none⟩)), some (.pointer ao), some (.slice (some ⟨b9, 0, none⟩) 4 4), some (.int .i64 (k : Nat)), some (.pointer (some ⟨b9, k * 5, none⟩)), some (aggV (jobC j)), some (.tuple #[aggV (Vi.vwC Vi.zv), .bool false, .int .i64 x]), some (.tuple #[aggV (Vi.vwC Vi.zv), .bool false, .int .i64 x]), some (aggV (Vi.vwC Vi.zv)), some (.bool false), some (.int .i64 x), none, none, some (.bool false), some (.int .i64 x)] rfl (by kernel_rfl) (fun l vs W => (SN V12 29 19 13) (fun i => l.getD i false) vs W) (⟨(Kept.refl _ _).drew, fun h => by cases h⟩) ?_ ?_)
    · intro ix o' hi ho a' w2 l vs hls hlf hJ hout hin hdep hnot
      match ix, ho with
      | 0, ho =>
        obtain rfl := Option.some.inj ho
        have e0 := hout 6 (by kernel_rfl)
        replace e0 : a'.eval (.tmp 6) = _ := e0.trans rfl
        exact wp_move (.tmp 6) rfl _ e0 ⟨_, rfl, told_of rfl, Le.keepG (St := (SN V12 29 19 13)) [13] SN.loc (by omega) (by decide) hJ⟩
      | 1, ho =>
        obtain rfl := Option.some.inj ho
        have e0 := hout 9 (by kernel_rfl)
        replace e0 : a'.eval (.tmp 9) = _ := e0.trans rfl
        exact wp_move (.tmp 9) rfl _ e0 ⟨_, rfl, told_of rfl, Le.keepG (St := (SN V12 29 19 13)) [13] SN.loc (by omega) (by decide) hJ⟩
      | 2, ho =>
        obtain rfl := Option.some.inj ho
        have e0 : a'.eval (.tmp 86) = .slice (some ⟨b8, 0, none⟩) 4 4 := by have h9 := hin 0 86 (by kernel_rfl) (by kernel_rfl); exact h9.1.trans (told_is _ h9.2 rfl)
        have e1 : a'.eval (.tmp 87) = .int .i64 (k : Nat) := by have h9 := hin 1 87 (by kernel_rfl) (by kernel_rfl); exact h9.1.trans (told_is _ h9.2 rfl)
        exact o_idx69 (.tmp 86) (.tmp 87) rfl b8 4 4 k (unhide HKL) e0 e1 ⟨_, rfl, told_of rfl, Le.keepG (St := (SN V12 29 19 13)) [13] SN.loc (by omega) (by decide) hJ⟩
      | 3, ho =>
        obtain rfl := Option.some.inj ho
        have e0 : a'.eval (.tmp 88) = .pointer (some ⟨b8, k, none⟩) := by have h9 := hin 2 88 (by kernel_rfl) (by kernel_rfl); exact h9.1.trans (told_is _ h9.2 rfl)
        exact o_load32 (.tmp 88) rfl _ _ e0 ((unhide HRW).k ((unhide HK).trans hJ.1)).dev ⟨_, rfl, told_of rfl, Le.keepG (St := (SN V12 29 19 13)) [13] SN.loc (by omega) (by decide) hJ⟩
      | 4, ho =>
        obtain rfl := Option.some.inj ho
        have e0 := hout 7 (by kernel_rfl)
        replace e0 : a'.eval (.tmp 7) = _ := e0.trans rfl
        exact wp_move (.tmp 7) rfl _ e0 ⟨_, rfl, told_of rfl, Le.keepG (St := (SN V12 29 19 13)) [13] SN.loc (by omega) (by decide) hJ⟩
      | 5, ho =>
        obtain rfl := Option.some.inj ho
        have e0 := hout 9 (by kernel_rfl)
        replace e0 : a'.eval (.tmp 9) = _ := e0.trans rfl
        exact wp_move (.tmp 9) rfl _ e0 ⟨_, rfl, told_of rfl, Le.keepG (St := (SN V12 29 19 13)) [13] SN.loc (by omega) (by decide) hJ⟩
      | 6, ho =>
        obtain rfl := Option.some.inj ho
        have e0 : a'.eval (.tmp 90) = .slice (some ⟨b9, 0, none⟩) 4 4 := by have h9 := hin 4 90 (by kernel_rfl) (by kernel_rfl); exact h9.1.trans (told_is _ h9.2 rfl)
        have e1 : a'.eval (.tmp 91) = .int .i64 (k : Nat) := by have h9 := hin 5 91 (by kernel_rfl) (by kernel_rfl); exact h9.1.trans (told_is _ h9.2 rfl)
        exact o_idx70 (.tmp 90) (.tmp 91) rfl b9 4 4 k (unhide HKL) e0 e1 ⟨_, rfl, told_of rfl, Le.keepG (St := (SN V12 29 19 13)) [13] SN.loc (by omega) (by decide) hJ⟩
      | 7, ho =>
        obtain rfl := Option.some.inj ho
        have e0 : a'.eval (.tmp 92) = .pointer (some ⟨b9, k * 5, none⟩) := by have h9 := hin 6 92 (by kernel_rfl) (by kernel_rfl); exact h9.1.trans (told_is _ h9.2 rfl)
        exact wp_loadA jrow (.tmp 92) rfl b9 (k * 5) e0 (jobC j) rfl ((unhide HRW).k ((unhide HK).trans hJ.1)).jobs ⟨_, rfl, told_of rfl, Le.keepG (St := (SN V12 29 19 13)) [13] SN.loc (by omega) (by decide) hJ⟩
      | 8, ho =>
        obtain rfl := Option.some.inj ho
        have e0 : a'.eval (.tmp 89) = .pointer ao := by have h9 := hin 3 89 (by kernel_rfl) (by kernel_rfl); exact h9.1.trans (told_is _ h9.2 rfl)
        have e1 : a'.eval (.tmp 93) = aggV (jobC j) := by have h9 := hin 7 93 (by kernel_rfl) (by kernel_rfl); exact h9.1.trans (told_is _ h9.2 rfl)
        refine wp_callF 32 _ _ rfl #[.pointer ao, aggV (jobC j), .int .i64 0, .int .i64 1] (by simp [e0, e1]; first | rfl | exact ⟨rfl, rfl⟩ | exact ⟨rfl, rfl, rfl⟩) (cg32 _ _) ((join_bad ((unhide HRW).k ((unhide HK).trans hJ.1)).bad (Nat.lt_of_lt_of_le (unhide HF).lt ((unhide HKV).trans ((unhide HK).trans hJ.1)).size) 0 1).mono ?_)
        rintro e w3 ⟨rfl, hk3⟩
        exact ⟨_, rfl, _, rfl, told_of rfl, Le.keepG (St := (SN V12 29 19 13)) [13] SN.loc (by omega) (by decide) (SN.step hJ hk3)⟩
      | 9, ho =>
        obtain rfl := Option.some.inj ho
        have e0 : a'.eval (.tmp 94) = .tuple #[aggV (Vi.vwC Vi.zv), .bool false, .int .i64 x] := by have h9 := hin 8 94 (by kernel_rfl) (by kernel_rfl); exact h9.1.trans (told_is _ h9.2 rfl)
        exact wp_move (.tmp 94) rfl _ e0 ⟨_, rfl, told_of rfl, Le.keepG (St := (SN V12 29 19 13)) [13] SN.loc (by omega) (by decide) hJ⟩
      | 10, ho =>
        obtain rfl := Option.some.inj ho
        have e0 : a'.eval (.tmp 85) = .tuple #[aggV (Vi.vwC Vi.zv), .bool false, .int .i64 x] := by have h9 := hin 9 85 (by kernel_rfl) (by kernel_rfl); exact h9.1.trans (told_is _ h9.2 rfl)
        exact o_ext (.tmp 85) 0 rfl _ _ e0 rfl ⟨_, rfl, told_of rfl, Le.keepG (St := (SN V12 29 19 13)) [13] SN.loc (by omega) (by decide) hJ⟩
      | 11, ho =>
        obtain rfl := Option.some.inj ho
        have e0 : a'.eval (.tmp 85) = .tuple #[aggV (Vi.vwC Vi.zv), .bool false, .int .i64 x] := by have h9 := hin 9 85 (by kernel_rfl) (by kernel_rfl); exact h9.1.trans (told_is _ h9.2 rfl)
        exact o_ext (.tmp 85) 1 rfl _ _ e0 rfl ⟨_, rfl, told_of rfl, Le.keepG (St := (SN V12 29 19 13)) [13] SN.loc (by omega) (by decide) hJ⟩
      | 12, ho =>
        obtain rfl := Option.some.inj ho
        have e0 : a'.eval (.tmp 85) = .tuple #[aggV (Vi.vwC Vi.zv), .bool false, .int .i64 x] := by have h9 := hin 9 85 (by kernel_rfl) (by kernel_rfl); exact h9.1.trans (told_is _ h9.2 rfl)
        exact o_ext (.tmp 85) 2 rfl _ _ e0 rfl ⟨_, rfl, told_of rfl, Le.keepG (St := (SN V12 29 19 13)) [13] SN.loc (by omega) (by decide) hJ⟩
      | 13, ho =>
        obtain rfl := Option.some.inj ho
        exact wp_allocA (Vi.vwC Vi.zv) Vi.zero26 rfl ⟨_, rfl, told_no rfl, Le.nextG (St := (SN V12 29 19 13)) (by omega) (SN.alloc hJ (Vi.vwC Vi.zv) rfl)⟩
      | 14, ho =>
        obtain rfl := Option.some.inj ho
        have e0 : a'.eval (.tmp 15) = vs 13 := (hin 13 15 (by kernel_rfl) (by kernel_rfl)).1
        have e1 : a'.eval (.tmp 95) = aggV (Vi.vwC Vi.zv) := by have h9 := hin 10 95 (by kernel_rfl) (by kernel_rfl); exact h9.1.trans (told_is _ h9.2 rfl)
        obtain ⟨p, us, hp, hge, hul, hb⟩ := hJ.2 (hdep 13 (by kernel_rfl))
        exact wp_storeN Vi.row26 (.tmp 15) (.tmp 95) rfl rfl p 0 (Vi.vwC Vi.zv) (e0.trans hp) e1 rfl (Vi.vwC_one _) (hb.there (by omega)) ⟨undef, rfl, told_no rfl, Le.keepG (St := (SN V12 29 19 13)) [13] SN.loc (by omega) (by decide) (SN.fill hJ hp hge hb hul rfl)⟩
      | 15, ho =>
        obtain rfl := Option.some.inj ho
        have e0 : a'.eval (.tmp 96) = .bool false := by have h9 := hin 11 96 (by kernel_rfl) (by kernel_rfl); exact h9.1.trans (told_is _ h9.2 rfl)
        exact wp_assignV (.tmp 96) rfl _ e0 ⟨_, rfl, told_of rfl, Le.keepG (St := (SN V12 29 19 13)) [13] SN.loc (by omega) (by decide) hJ⟩
      | 16, ho =>
        obtain rfl := Option.some.inj ho
        have e0 : a'.eval (.tmp 97) = .int .i64 x := by have h9 := hin 12 97 (by kernel_rfl) (by kernel_rfl); exact h9.1.trans (told_is _ h9.2 rfl)
        exact wp_assignV (.tmp 97) rfl _ e0 ⟨_, rfl, told_of rfl, Le.keepG (St := (SN V12 29 19 13)) [13] SN.loc (by omega) (by decide) hJ⟩
    intro l_ vs_V13 V13 hl hJ htold
    have t0 : vs_V13 0 = .slice (some ⟨b8, 0, none⟩) 4 4 := told_is _ (htold 0 (by decide)) rfl
    have t1 : vs_V13 1 = .int .i64 (k : Nat) := told_is _ (htold 1 (by decide)) rfl
    have t2 : vs_V13 2 = .pointer (some ⟨b8, k, none⟩) := told_is _ (htold 2 (by decide)) rfl
    have t3 : vs_V13 3 = .pointer ao := told_is _ (htold 3 (by decide)) rfl
    have t4 : vs_V13 4 = .slice (some ⟨b9, 0, none⟩) 4 4 := told_is _ (htold 4 (by decide)) rfl
    have t5 : vs_V13 5 = .int .i64 (k : Nat) := told_is _ (htold 5 (by decide)) rfl
    have t6 : vs_V13 6 = .pointer (some ⟨b9, k * 5, none⟩) := told_is _ (htold 6 (by decide)) rfl
    have t7 : vs_V13 7 = aggV (jobC j) := told_is _ (htold 7 (by decide)) rfl
    have t8 : vs_V13 8 = .tuple #[aggV (Vi.vwC Vi.zv), .bool false, .int .i64 x] := told_is _ (htold 8 (by decide)) rfl
    have t9 : vs_V13 9 = .tuple #[aggV (Vi.vwC Vi.zv), .bool false, .int .i64 x] := told_is _ (htold 9 (by decide)) rfl
    have t10 : vs_V13 10 = aggV (Vi.vwC Vi.zv) := told_is _ (htold 10 (by decide)) rfl
    have t11 : vs_V13 11 = .bool false := told_is _ (htold 11 (by decide)) rfl
    have t12 : vs_V13 12 = .int .i64 x := told_is _ (htold 12 (by decide)) rfl
    have t15 : vs_V13 15 = .bool false := told_is _ (htold 15 (by decide)) rfl
    have t16 : vs_V13 16 = .int .i64 x := told_is _ (htold 16 (by decide)) rfl
    rw [show (List.range 17).map vs_V13 = [vs_V13 0, vs_V13 1, vs_V13 2, vs_V13 3, vs_V13 4, vs_V13 5, vs_V13 6, vs_V13 7, vs_V13 8, vs_V13 9, vs_V13 10, vs_V13 11, vs_V13 12, vs_V13 13, vs_V13 14, vs_V13 15, vs_V13 16] from rfl]
    simp only [t0, t1, t2, t3, t4, t5, t6, t7, t8, t9, t10, t11, t12, t15, t16, putAll, Act.put, List.setIfInBounds_toArray, List.set_cons_succ, List.set_cons_zero]
    clear t0 t1 t2 t3 t4 t5 t6 t7 t8 t9 t10 t11 t12 t15 t16 htold
    generalize vs_V13 13 = u15
    replace HMK := hide ((unhide HMK).kept0 hJ.1)
    replace HK := hide ((unhide HK).trans hJ.1)
    clear hJ hl
    go_wp2_with fail
    refine wp_region_any mixed (wpAny_gx 17 rfl (by kernel_rfl) [some (.slice (some ⟨b8, 0, none⟩) 4 4), some (.int .i64 (k : Nat)), some (.pointer (some ⟨b8, k, none⟩)), some (.pointer ao), some (.slice (some ⟨b9, 0, none⟩) 4 4), some (.int .i64 (k : Nat)), some (.pointer (some ⟨b9, k * 5, none⟩)), some (aggV (jobC j)), some (.tuple #[aggV (Vi.vwC Vi.zv), .bool false, .int .i64 x]), some (.tuple #[aggV (Vi.vwC Vi.zv), .bool false, .int .i64 x]), some (aggV (Vi.vwC Vi.zv)), some (.bool false), some (.int .i64 x), none, none, some (.bool false), some (.int .i64 x)] rfl (by kernel_rfl) (fun l vs W => (SN V13 29 19 13) (fun i => l.getD i false) vs W) (⟨(Kept.refl _ _).drew, fun h => by cases h⟩) ?_ ?_)
    · intro ix o' hi ho a' w2 l vs hls hlf hJ hout hin hdep hnot
      match ix, ho with
      | 0, ho =>
        obtain rfl := Option.some.inj ho
        have e0 := hout 6 (by kernel_rfl)
        replace e0 : a'.eval (.tmp 6) = _ := e0.trans rfl
        exact wp_move (.tmp 6) rfl _ e0 ⟨_, rfl, told_of rfl, Le.keepG (St := (SN V13 29 19 13)) [13] SN.loc (by omega) (by decide) hJ⟩
      | 1, ho =>
        obtain rfl := Option.some.inj ho
        have e0 := hout 9 (by kernel_rfl)
        replace e0 : a'.eval (.tmp 9) = _ := e0.trans rfl
        exact wp_move (.tmp 9) rfl _ e0 ⟨_, rfl, told_of rfl, Le.keepG (St := (SN V13 29 19 13)) [13] SN.loc (by omega) (by decide) hJ⟩
      | 2, ho =>
        obtain rfl := Option.some.inj ho
        have e0 : a'.eval (.tmp 99) = .slice (some ⟨b8, 0, none⟩) 4 4 := by have h9 := hin 0 99 (by kernel_rfl) (by kernel_rfl); exact h9.1.trans (told_is _ h9.2 rfl)
        have e1 : a'.eval (.tmp 100) = .int .i64 (k : Nat) := by have h9 := hin 1 100 (by kernel_rfl) (by kernel_rfl); exact h9.1.trans (told_is _ h9.2 rfl)
        exact o_idx69 (.tmp 99) (.tmp 100) rfl b8 4 4 k (unhide HKL) e0 e1 ⟨_, rfl, told_of rfl, Le.keepG (St := (SN V13 29 19 13)) [13] SN.loc (by omega) (by decide) hJ⟩
      | 3, ho =>
        obtain rfl := Option.some.inj ho
        have e0 : a'.eval (.tmp 101) = .pointer (some ⟨b8, k, none⟩) := by have h9 := hin 2 101 (by kernel_rfl) (by kernel_rfl); exact h9.1.trans (told_is _ h9.2 rfl)
        exact o_load32 (.tmp 101) rfl _ _ e0 ((unhide HRW).k ((unhide HK).trans hJ.1)).dev ⟨_, rfl, told_of rfl, Le.keepG (St := (SN V13 29 19 13)) [13] SN.loc (by omega) (by decide) hJ⟩
      | 4, ho =>
        obtain rfl := Option.some.inj ho
        have e0 := hout 7 (by kernel_rfl)
        replace e0 : a'.eval (.tmp 7) = _ := e0.trans rfl
        exact wp_move (.tmp 7) rfl _ e0 ⟨_, rfl, told_of rfl, Le.keepG (St := (SN V13 29 19 13)) [13] SN.loc (by omega) (by decide) hJ⟩
      | 5, ho =>
        obtain rfl := Option.some.inj ho
        have e0 := hout 9 (by kernel_rfl)
        replace e0 : a'.eval (.tmp 9) = _ := e0.trans rfl
        exact wp_move (.tmp 9) rfl _ e0 ⟨_, rfl, told_of rfl, Le.keepG (St := (SN V13 29 19 13)) [13] SN.loc (by omega) (by decide) hJ⟩
      | 6, ho =>
        obtain rfl := Option.some.inj ho
        have e0 : a'.eval (.tmp 103) = .slice (some ⟨b9, 0, none⟩) 4 4 := by have h9 := hin 4 103 (by kernel_rfl) (by kernel_rfl); exact h9.1.trans (told_is _ h9.2 rfl)
        have e1 : a'.eval (.tmp 104) = .int .i64 (k : Nat) := by have h9 := hin 5 104 (by kernel_rfl) (by kernel_rfl); exact h9.1.trans (told_is _ h9.2 rfl)
        exact o_idx70 (.tmp 103) (.tmp 104) rfl b9 4 4 k (unhide HKL) e0 e1 ⟨_, rfl, told_of rfl, Le.keepG (St := (SN V13 29 19 13)) [13] SN.loc (by omega) (by decide) hJ⟩
      | 7, ho =>
        obtain rfl := Option.some.inj ho
        have e0 : a'.eval (.tmp 105) = .pointer (some ⟨b9, k * 5, none⟩) := by have h9 := hin 6 105 (by kernel_rfl) (by kernel_rfl); exact h9.1.trans (told_is _ h9.2 rfl)
        exact wp_loadA jrow (.tmp 105) rfl b9 (k * 5) e0 (jobC j) rfl ((unhide HRW).k ((unhide HK).trans hJ.1)).jobs ⟨_, rfl, told_of rfl, Le.keepG (St := (SN V13 29 19 13)) [13] SN.loc (by omega) (by decide) hJ⟩
      | 8, ho =>
        obtain rfl := Option.some.inj ho
        have e0 : a'.eval (.tmp 102) = .pointer ao := by have h9 := hin 3 102 (by kernel_rfl) (by kernel_rfl); exact h9.1.trans (told_is _ h9.2 rfl)
        have e1 : a'.eval (.tmp 106) = aggV (jobC j) := by have h9 := hin 7 106 (by kernel_rfl) (by kernel_rfl); exact h9.1.trans (told_is _ h9.2 rfl)
        refine wp_callF 33 _ _ rfl #[.pointer ao, aggV (jobC j), .int .i64 0, .int .i64 1, .int .i64 1] (by simp [e0, e1]; first | rfl | exact ⟨rfl, rfl⟩ | exact ⟨rfl, rfl, rfl⟩) (cg33 _ _) ((out_bad ((unhide HRW).k ((unhide HK).trans hJ.1)).bad (Nat.lt_of_lt_of_le (unhide HF).lt ((unhide HKV).trans ((unhide HK).trans hJ.1)).size) 0 1 1).mono ?_)
        rintro e w3 ⟨rfl, hk3⟩
        exact ⟨_, rfl, _, rfl, told_of rfl, Le.keepG (St := (SN V13 29 19 13)) [13] SN.loc (by omega) (by decide) (SN.step hJ hk3)⟩
      | 9, ho =>
        obtain rfl := Option.some.inj ho
        have e0 : a'.eval (.tmp 107) = .tuple #[aggV (Vi.vwC Vi.zv), .bool false, .int .i64 x] := by have h9 := hin 8 107 (by kernel_rfl) (by kernel_rfl); exact h9.1.trans (told_is _ h9.2 rfl)
        exact wp_move (.tmp 107) rfl _ e0 ⟨_, rfl, told_of rfl, Le.keepG (St := (SN V13 29 19 13)) [13] SN.loc (by omega) (by decide) hJ⟩
      | 10, ho =>
        obtain rfl := Option.some.inj ho
        have e0 : a'.eval (.tmp 98) = .tuple #[aggV (Vi.vwC Vi.zv), .bool false, .int .i64 x] := by have h9 := hin 9 98 (by kernel_rfl) (by kernel_rfl); exact h9.1.trans (told_is _ h9.2 rfl)
        exact o_ext (.tmp 98) 0 rfl _ _ e0 rfl ⟨_, rfl, told_of rfl, Le.keepG (St := (SN V13 29 19 13)) [13] SN.loc (by omega) (by decide) hJ⟩
      | 11, ho =>
        obtain rfl := Option.some.inj ho
        have e0 : a'.eval (.tmp 98) = .tuple #[aggV (Vi.vwC Vi.zv), .bool false, .int .i64 x] := by have h9 := hin 9 98 (by kernel_rfl) (by kernel_rfl); exact h9.1.trans (told_is _ h9.2 rfl)
        exact o_ext (.tmp 98) 1 rfl _ _ e0 rfl ⟨_, rfl, told_of rfl, Le.keepG (St := (SN V13 29 19 13)) [13] SN.loc (by omega) (by decide) hJ⟩
      | 12, ho =>
        obtain rfl := Option.some.inj ho
        have e0 : a'.eval (.tmp 98) = .tuple #[aggV (Vi.vwC Vi.zv), .bool false, .int .i64 x] := by have h9 := hin 9 98 (by kernel_rfl) (by kernel_rfl); exact h9.1.trans (told_is _ h9.2 rfl)
        exact o_ext (.tmp 98) 2 rfl _ _ e0 rfl ⟨_, rfl, told_of rfl, Le.keepG (St := (SN V13 29 19 13)) [13] SN.loc (by omega) (by decide) hJ⟩
      | 13, ho =>
        obtain rfl := Option.some.inj ho
        exact wp_allocA (Vi.vwC Vi.zv) Vi.zero26 rfl ⟨_, rfl, told_no rfl, Le.nextG (St := (SN V13 29 19 13)) (by omega) (SN.alloc hJ (Vi.vwC Vi.zv) rfl)⟩
      | 14, ho =>
        obtain rfl := Option.some.inj ho
        have e0 : a'.eval (.tmp 18) = vs 13 := (hin 13 18 (by kernel_rfl) (by kernel_rfl)).1
        have e1 : a'.eval (.tmp 108) = aggV (Vi.vwC Vi.zv) := by have h9 := hin 10 108 (by kernel_rfl) (by kernel_rfl); exact h9.1.trans (told_is _ h9.2 rfl)
        obtain ⟨p, us, hp, hge, hul, hb⟩ := hJ.2 (hdep 13 (by kernel_rfl))
        exact wp_storeN Vi.row26 (.tmp 18) (.tmp 108) rfl rfl p 0 (Vi.vwC Vi.zv) (e0.trans hp) e1 rfl (Vi.vwC_one _) (hb.there (by omega)) ⟨undef, rfl, told_no rfl, Le.keepG (St := (SN V13 29 19 13)) [13] SN.loc (by omega) (by decide) (SN.fill hJ hp hge hb hul rfl)⟩
      | 15, ho =>
        obtain rfl := Option.some.inj ho
        have e0 : a'.eval (.tmp 109) = .bool false := by have h9 := hin 11 109 (by kernel_rfl) (by kernel_rfl); exact h9.1.trans (told_is _ h9.2 rfl)
        exact wp_assignV (.tmp 109) rfl _ e0 ⟨_, rfl, told_of rfl, Le.keepG (St := (SN V13 29 19 13)) [13] SN.loc (by omega) (by decide) hJ⟩
      | 16, ho =>
        obtain rfl := Option.some.inj ho
        have e0 : a'.eval (.tmp 110) = .int .i64 x := by have h9 := hin 12 110 (by kernel_rfl) (by kernel_rfl); exact h9.1.trans (told_is _ h9.2 rfl)
        exact wp_assignV (.tmp 110) rfl _ e0 ⟨_, rfl, told_of rfl, Le.keepG (St := (SN V13 29 19 13)) [13] SN.loc (by omega) (by decide) hJ⟩
    intro l_ vs_V14 V14 hl hJ htold
    have t0 : vs_V14 0 = .slice (some ⟨b8, 0, none⟩) 4 4 := told_is _ (htold 0 (by decide)) rfl
    have t1 : vs_V14 1 = .int .i64 (k : Nat) := told_is _ (htold 1 (by decide)) rfl
    have t2 : vs_V14 2 = .pointer (some ⟨b8, k, none⟩) := told_is _ (htold 2 (by decide)) rfl
    have t3 : vs_V14 3 = .pointer ao := told_is _ (htold 3 (by decide)) rfl
    have t4 : vs_V14 4 = .slice (some ⟨b9, 0, none⟩) 4 4 := told_is _ (htold 4 (by decide)) rfl
    have t5 : vs_V14 5 = .int .i64 (k : Nat) := told_is _ (htold 5 (by decide)) rfl
    have t6 : vs_V14 6 = .pointer (some ⟨b9, k * 5, none⟩) := told_is _ (htold 6 (by decide)) rfl
    have t7 : vs_V14 7 = aggV (jobC j) := told_is _ (htold 7 (by decide)) rfl
    have t8 : vs_V14 8 = .tuple #[aggV (Vi.vwC Vi.zv), .bool false, .int .i64 x] := told_is _ (htold 8 (by decide)) rfl
    have t9 : vs_V14 9 = .tuple #[aggV (Vi.vwC Vi.zv), .bool false, .int .i64 x] := told_is _ (htold 9 (by decide)) rfl
    have t10 : vs_V14 10 = aggV (Vi.vwC Vi.zv) := told_is _ (htold 10 (by decide)) rfl
    have t11 : vs_V14 11 = .bool false := told_is _ (htold 11 (by decide)) rfl
    have t12 : vs_V14 12 = .int .i64 x := told_is _ (htold 12 (by decide)) rfl
    have t15 : vs_V14 15 = .bool false := told_is _ (htold 15 (by decide)) rfl
    have t16 : vs_V14 16 = .int .i64 x := told_is _ (htold 16 (by decide)) rfl
    rw [show (List.range 17).map vs_V14 = [vs_V14 0, vs_V14 1, vs_V14 2, vs_V14 3, vs_V14 4, vs_V14 5, vs_V14 6, vs_V14 7, vs_V14 8, vs_V14 9, vs_V14 10, vs_V14 11, vs_V14 12, vs_V14 13, vs_V14 14, vs_V14 15, vs_V14 16] from rfl]
    simp only [t0, t1, t2, t3, t4, t5, t6, t7, t8, t9, t10, t11, t12, t15, t16, putAll, Act.put, List.setIfInBounds_toArray, List.set_cons_succ, List.set_cons_zero]
    clear t0 t1 t2 t3 t4 t5 t6 t7 t8 t9 t10 t11 t12 t15 t16 htold
    generalize vs_V14 13 = u18
    replace HMK := hide ((unhide HMK).kept0 hJ.1)
    replace HK := hide ((unhide HK).trans hJ.1)
    clear hJ hl
    go_wp2_with fail
    refine wp_region_any mixed (wpAny_gx 17 rfl (by kernel_rfl) [some (.slice (some ⟨b8, 0, none⟩) 4 4), some (.int .i64 (k : Nat)), some (.pointer (some ⟨b8, k, none⟩)), some (.pointer ao), some (.slice (some ⟨b9, 0, none⟩) 4 4), some (.int .i64 (k : Nat)), some (.pointer (some ⟨b9, k * 5, none⟩)), some (aggV (jobC j)), some (.tuple #[aggV (Vi.vwC Vi.zv), .bool false, .int .i64 x]), some (.tuple #[aggV (Vi.vwC Vi.zv), .bool false, .int .i64 x]), some (aggV (Vi.vwC Vi.zv)), some (.bool false), some (.int .i64 x), none, none, some (.bool false), some (.int .i64 x)] rfl (by kernel_rfl) (fun l vs W => (SN V14 29 19 13) (fun i => l.getD i false) vs W) (⟨(Kept.refl _ _).drew, fun h => by cases h⟩) ?_ ?_)
    · intro ix o' hi ho a' w2 l vs hls hlf hJ hout hin hdep hnot
      match ix, ho with
      | 0, ho =>
        obtain rfl := Option.some.inj ho
        have e0 := hout 6 (by kernel_rfl)
        replace e0 : a'.eval (.tmp 6) = _ := e0.trans rfl
        exact wp_move (.tmp 6) rfl _ e0 ⟨_, rfl, told_of rfl, Le.keepG (St := (SN V14 29 19 13)) [13] SN.loc (by omega) (by decide) hJ⟩
      | 1, ho =>
        obtain rfl := Option.some.inj ho
        have e0 := hout 9 (by kernel_rfl)
        replace e0 : a'.eval (.tmp 9) = _ := e0.trans rfl
        exact wp_move (.tmp 9) rfl _ e0 ⟨_, rfl, told_of rfl, Le.keepG (St := (SN V14 29 19 13)) [13] SN.loc (by omega) (by decide) hJ⟩
      | 2, ho =>
        obtain rfl := Option.some.inj ho
        have e0 : a'.eval (.tmp 112) = .slice (some ⟨b8, 0, none⟩) 4 4 := by have h9 := hin 0 112 (by kernel_rfl) (by kernel_rfl); exact h9.1.trans (told_is _ h9.2 rfl)
        have e1 : a'.eval (.tmp 113) = .int .i64 (k : Nat) := by have h9 := hin 1 113 (by kernel_rfl) (by kernel_rfl); exact h9.1.trans (told_is _ h9.2 rfl)
        exact o_idx69 (.tmp 112) (.tmp 113) rfl b8 4 4 k (unhide HKL) e0 e1 ⟨_, rfl, told_of rfl, Le.keepG (St := (SN V14 29 19 13)) [13] SN.loc (by omega) (by decide) hJ⟩
      | 3, ho =>
        obtain rfl := Option.some.inj ho
        have e0 : a'.eval (.tmp 114) = .pointer (some ⟨b8, k, none⟩) := by have h9 := hin 2 114 (by kernel_rfl) (by kernel_rfl); exact h9.1.trans (told_is _ h9.2 rfl)
        exact o_load32 (.tmp 114) rfl _ _ e0 ((unhide HRW).k ((unhide HK).trans hJ.1)).dev ⟨_, rfl, told_of rfl, Le.keepG (St := (SN V14 29 19 13)) [13] SN.loc (by omega) (by decide) hJ⟩
      | 4, ho =>
        obtain rfl := Option.some.inj ho
        have e0 := hout 7 (by kernel_rfl)
        replace e0 : a'.eval (.tmp 7) = _ := e0.trans rfl
        exact wp_move (.tmp 7) rfl _ e0 ⟨_, rfl, told_of rfl, Le.keepG (St := (SN V14 29 19 13)) [13] SN.loc (by omega) (by decide) hJ⟩
      | 5, ho =>
        obtain rfl := Option.some.inj ho
        have e0 := hout 9 (by kernel_rfl)
        replace e0 : a'.eval (.tmp 9) = _ := e0.trans rfl
        exact wp_move (.tmp 9) rfl _ e0 ⟨_, rfl, told_of rfl, Le.keepG (St := (SN V14 29 19 13)) [13] SN.loc (by omega) (by decide) hJ⟩
      | 6, ho =>
        obtain rfl := Option.some.inj ho
        have e0 : a'.eval (.tmp 116) = .slice (some ⟨b9, 0, none⟩) 4 4 := by have h9 := hin 4 116 (by kernel_rfl) (by kernel_rfl); exact h9.1.trans (told_is _ h9.2 rfl)
        have e1 : a'.eval (.tmp 117) = .int .i64 (k : Nat) := by have h9 := hin 5 117 (by kernel_rfl) (by kernel_rfl); exact h9.1.trans (told_is _ h9.2 rfl)
        exact o_idx70 (.tmp 116) (.tmp 117) rfl b9 4 4 k (unhide HKL) e0 e1 ⟨_, rfl, told_of rfl, Le.keepG (St := (SN V14 29 19 13)) [13] SN.loc (by omega) (by decide) hJ⟩
      | 7, ho =>
        obtain rfl := Option.some.inj ho
        have e0 : a'.eval (.tmp 118) = .pointer (some ⟨b9, k * 5, none⟩) := by have h9 := hin 6 118 (by kernel_rfl) (by kernel_rfl); exact h9.1.trans (told_is _ h9.2 rfl)
        exact wp_loadA jrow (.tmp 118) rfl b9 (k * 5) e0 (jobC j) rfl ((unhide HRW).k ((unhide HK).trans hJ.1)).jobs ⟨_, rfl, told_of rfl, Le.keepG (St := (SN V14 29 19 13)) [13] SN.loc (by omega) (by decide) hJ⟩
      | 8, ho =>
        obtain rfl := Option.some.inj ho
        have e0 : a'.eval (.tmp 115) = .pointer ao := by have h9 := hin 3 115 (by kernel_rfl) (by kernel_rfl); exact h9.1.trans (told_is _ h9.2 rfl)
        have e1 : a'.eval (.tmp 119) = aggV (jobC j) := by have h9 := hin 7 119 (by kernel_rfl) (by kernel_rfl); exact h9.1.trans (told_is _ h9.2 rfl)
        refine wp_callF 34 _ _ rfl #[.pointer ao, aggV (jobC j), .int .i64 0, .int .i64 1] (by simp [e0, e1]; first | rfl | exact ⟨rfl, rfl⟩ | exact ⟨rfl, rfl, rfl⟩) (cg34 _ _) ((open_bad ((unhide HRW).k ((unhide HK).trans hJ.1)).bad (Nat.lt_of_lt_of_le (unhide HF).lt ((unhide HKV).trans ((unhide HK).trans hJ.1)).size) 0 1).mono ?_)
        rintro e w3 ⟨rfl, hk3⟩
        exact ⟨_, rfl, _, rfl, told_of rfl, Le.keepG (St := (SN V14 29 19 13)) [13] SN.loc (by omega) (by decide) (SN.step hJ hk3)⟩
      | 9, ho =>
        obtain rfl := Option.some.inj ho
        have e0 : a'.eval (.tmp 120) = .tuple #[aggV (Vi.vwC Vi.zv), .bool false, .int .i64 x] := by have h9 := hin 8 120 (by kernel_rfl) (by kernel_rfl); exact h9.1.trans (told_is _ h9.2 rfl)
        exact wp_move (.tmp 120) rfl _ e0 ⟨_, rfl, told_of rfl, Le.keepG (St := (SN V14 29 19 13)) [13] SN.loc (by omega) (by decide) hJ⟩
      | 10, ho =>
        obtain rfl := Option.some.inj ho
        have e0 : a'.eval (.tmp 111) = .tuple #[aggV (Vi.vwC Vi.zv), .bool false, .int .i64 x] := by have h9 := hin 9 111 (by kernel_rfl) (by kernel_rfl); exact h9.1.trans (told_is _ h9.2 rfl)
        exact o_ext (.tmp 111) 0 rfl _ _ e0 rfl ⟨_, rfl, told_of rfl, Le.keepG (St := (SN V14 29 19 13)) [13] SN.loc (by omega) (by decide) hJ⟩
      | 11, ho =>
        obtain rfl := Option.some.inj ho
        have e0 : a'.eval (.tmp 111) = .tuple #[aggV (Vi.vwC Vi.zv), .bool false, .int .i64 x] := by have h9 := hin 9 111 (by kernel_rfl) (by kernel_rfl); exact h9.1.trans (told_is _ h9.2 rfl)
        exact o_ext (.tmp 111) 1 rfl _ _ e0 rfl ⟨_, rfl, told_of rfl, Le.keepG (St := (SN V14 29 19 13)) [13] SN.loc (by omega) (by decide) hJ⟩
      | 12, ho =>
        obtain rfl := Option.some.inj ho
        have e0 : a'.eval (.tmp 111) = .tuple #[aggV (Vi.vwC Vi.zv), .bool false, .int .i64 x] := by have h9 := hin 9 111 (by kernel_rfl) (by kernel_rfl); exact h9.1.trans (told_is _ h9.2 rfl)
        exact o_ext (.tmp 111) 2 rfl _ _ e0 rfl ⟨_, rfl, told_of rfl, Le.keepG (St := (SN V14 29 19 13)) [13] SN.loc (by omega) (by decide) hJ⟩
      | 13, ho =>
        obtain rfl := Option.some.inj ho
        exact wp_allocA (Vi.vwC Vi.zv) Vi.zero26 rfl ⟨_, rfl, told_no rfl, Le.nextG (St := (SN V14 29 19 13)) (by omega) (SN.alloc hJ (Vi.vwC Vi.zv) rfl)⟩
      | 14, ho =>
        obtain rfl := Option.some.inj ho
        have e0 : a'.eval (.tmp 21) = vs 13 := (hin 13 21 (by kernel_rfl) (by kernel_rfl)).1
        have e1 : a'.eval (.tmp 121) = aggV (Vi.vwC Vi.zv) := by have h9 := hin 10 121 (by kernel_rfl) (by kernel_rfl); exact h9.1.trans (told_is _ h9.2 rfl)
        obtain ⟨p, us, hp, hge, hul, hb⟩ := hJ.2 (hdep 13 (by kernel_rfl))
        exact wp_storeN Vi.row26 (.tmp 21) (.tmp 121) rfl rfl p 0 (Vi.vwC Vi.zv) (e0.trans hp) e1 rfl (Vi.vwC_one _) (hb.there (by omega)) ⟨undef, rfl, told_no rfl, Le.keepG (St := (SN V14 29 19 13)) [13] SN.loc (by omega) (by decide) (SN.fill hJ hp hge hb hul rfl)⟩
      | 15, ho =>
        obtain rfl := Option.some.inj ho
        have e0 : a'.eval (.tmp 122) = .bool false := by have h9 := hin 11 122 (by kernel_rfl) (by kernel_rfl); exact h9.1.trans (told_is _ h9.2 rfl)
        exact wp_assignV (.tmp 122) rfl _ e0 ⟨_, rfl, told_of rfl, Le.keepG (St := (SN V14 29 19 13)) [13] SN.loc (by omega) (by decide) hJ⟩
      | 16, ho =>
        obtain rfl := Option.some.inj ho
        have e0 : a'.eval (.tmp 123) = .int .i64 x := by have h9 := hin 12 123 (by kernel_rfl) (by kernel_rfl); exact h9.1.trans (told_is _ h9.2 rfl)
        exact wp_assignV (.tmp 123) rfl _ e0 ⟨_, rfl, told_of rfl, Le.keepG (St := (SN V14 29 19 13)) [13] SN.loc (by omega) (by decide) hJ⟩
    intro l_ vs_V15 V15 hl hJ htold
    have t0 : vs_V15 0 = .slice (some ⟨b8, 0, none⟩) 4 4 := told_is _ (htold 0 (by decide)) rfl
    have t1 : vs_V15 1 = .int .i64 (k : Nat) := told_is _ (htold 1 (by decide)) rfl
    have t2 : vs_V15 2 = .pointer (some ⟨b8, k, none⟩) := told_is _ (htold 2 (by decide)) rfl
    have t3 : vs_V15 3 = .pointer ao := told_is _ (htold 3 (by decide)) rfl
    have t4 : vs_V15 4 = .slice (some ⟨b9, 0, none⟩) 4 4 := told_is _ (htold 4 (by decide)) rfl
    have t5 : vs_V15 5 = .int .i64 (k : Nat) := told_is _ (htold 5 (by decide)) rfl
    have t6 : vs_V15 6 = .pointer (some ⟨b9, k * 5, none⟩) := told_is _ (htold 6 (by decide)) rfl
    have t7 : vs_V15 7 = aggV (jobC j) := told_is _ (htold 7 (by decide)) rfl
    have t8 : vs_V15 8 = .tuple #[aggV (Vi.vwC Vi.zv), .bool false, .int .i64 x] := told_is _ (htold 8 (by decide)) rfl
    have t9 : vs_V15 9 = .tuple #[aggV (Vi.vwC Vi.zv), .bool false, .int .i64 x] := told_is _ (htold 9 (by decide)) rfl
    have t10 : vs_V15 10 = aggV (Vi.vwC Vi.zv) := told_is _ (htold 10 (by decide)) rfl
    have t11 : vs_V15 11 = .bool false := told_is _ (htold 11 (by decide)) rfl
    have t12 : vs_V15 12 = .int .i64 x := told_is _ (htold 12 (by decide)) rfl
    have t15 : vs_V15 15 = .bool false := told_is _ (htold 15 (by decide)) rfl
    have t16 : vs_V15 16 = .int .i64 x := told_is _ (htold 16 (by decide)) rfl
    rw [show (List.range 17).map vs_V15 = [vs_V15 0, vs_V15 1, vs_V15 2, vs_V15 3, vs_V15 4, vs_V15 5, vs_V15 6, vs_V15 7, vs_V15 8, vs_V15 9, vs_V15 10, vs_V15 11, vs_V15 12, vs_V15 13, vs_V15 14, vs_V15 15, vs_V15 16] from rfl]
    simp only [t0, t1, t2, t3, t4, t5, t6, t7, t8, t9, t10, t11, t12, t15, t16, putAll, Act.put, List.setIfInBounds_toArray, List.set_cons_succ, List.set_cons_zero]
    clear t0 t1 t2 t3 t4 t5 t6 t7 t8 t9 t10 t11 t12 t15 t16 htold
    generalize vs_V15 13 = u21
    replace HMK := hide ((unhide HMK).kept0 hJ.1)
    replace HK := hide ((unhide HK).trans hJ.1)
    clear hJ hl
    go_wp2_with fail
    try simp only [List.append_eq, List.cons_append, List.nil_append]
    refine wp_region_any mixed (wpAny_gz 69 rfl (some (.int .i64 x) :: some (.slice (some ⟨b10, 0, none⟩) 4 4) :: some (.int .i64 (k : Nat)) :: some (.pointer (some ⟨b10, k, none⟩)) :: some (.int .i64 x) :: some (.bool false) :: some (.bool false) :: some (.int .i64 x) :: some (.slice (some ⟨b10, 0, none⟩) 4 4) :: some (.int .i64 (k : Nat)) :: some (.pointer (some ⟨b10, k, none⟩)) :: some (.int .i64 x) :: some (.bool false) :: some (.bool false) :: some (.bool false) :: some (.int .i64 x) :: some (.slice (some ⟨b10, 0, none⟩) 4 4) :: some (.int .i64 (k : Nat)) :: some (.pointer (some ⟨b10, k, none⟩)) :: some (.int .i64 x) :: some (.bool false) :: some (.bool false) :: some (.bool false) :: some (.int .i64 x) :: some (.slice (some ⟨b10, 0, none⟩) 4 4) :: some (.int .i64 (k : Nat)) :: some (.pointer (some ⟨b10, k, none⟩)) :: some (.int .i64 x) :: some (.bool false) :: some (.bool false) :: some (.bool false) :: some (.int .i64 x) :: some (.slice (some ⟨b10, 0, none⟩) 4 4) :: some (.int .i64 (k : Nat)) :: some (.pointer (some ⟨b10, k, none⟩)) :: some (.int .i64 x) :: some (.bool false) :: some (.bool false) :: some (.bool false) :: some (.int .i64 x) :: some (.slice (some ⟨b10, 0, none⟩) 4 4) :: some (.int .i64 (k : Nat)) :: some (.pointer (some ⟨b10, k, none⟩)) :: some (.int .i64 x) :: some (.bool false) :: some (.bool false) :: some (.bool false) :: some (.bool false) :: some (.bool false) :: some (.bool false) :: some (.bool false) :: some (.bool false) :: some (.bool false) :: some (.bool false) :: some (.bool false) :: some (.bool false) :: some (.slice (some ⟨b8, 0, none⟩) 4 4) :: some (.int .i64 (k : Nat)) :: some (.pointer (some ⟨b8, k, none⟩)) :: some (.pointer ao) :: some (.slice (some ⟨b9, 0, none⟩) 4 4) :: some (.int .i64 (k : Nat)) :: some (.pointer (some ⟨b9, k * 5, none⟩)) :: some (aggV (jobC j)) :: some (aggV (Vi.memC (true, 1))) :: some (aggV (Vi.memsC mK)) :: some (aggV (Vi.vwC vK)) :: some (.bool false) :: some (.bool false) :: []) (by kernel_rfl) rfl (by kernel_rfl) (fun l vs W => (SN V15 29 19 90) (fun i => l.getD i false) vs W) (⟨(Kept.refl _ _).drew, fun h => by cases h⟩) ?_ ?_)
    · intro ix o' hi ho a' w2 l vs hls hlf hJ hout hin hdep hnot
      match ix, ho with
      | 0, ho =>
        obtain rfl := Option.some.inj ho
        have e0 := hout 11 (by kernel_rfl)
        replace e0 : a'.eval (.tmp 11) = _ := e0.trans rfl
        exact wp_move (.tmp 11) rfl _ e0 ⟨_, rfl, told_of rfl, Le.keepG (St := (SN V15 29 19 90)) [90] SN.loc (by omega) (by decide) hJ⟩
      | 1, ho =>
        obtain rfl := Option.some.inj ho
        have e0 := hout 8 (by kernel_rfl)
        replace e0 : a'.eval (.tmp 8) = _ := e0.trans rfl
        exact wp_move (.tmp 8) rfl _ e0 ⟨_, rfl, told_of rfl, Le.keepG (St := (SN V15 29 19 90)) [90] SN.loc (by omega) (by decide) hJ⟩
      | 2, ho =>
        obtain rfl := Option.some.inj ho
        have e0 := hout 9 (by kernel_rfl)
        replace e0 : a'.eval (.tmp 9) = _ := e0.trans rfl
        exact wp_move (.tmp 9) rfl _ e0 ⟨_, rfl, told_of rfl, Le.keepG (St := (SN V15 29 19 90)) [90] SN.loc (by omega) (by decide) hJ⟩
      | 3, ho =>
        obtain rfl := Option.some.inj ho
        have e0 : a'.eval (.tmp 125) = .slice (some ⟨b10, 0, none⟩) 4 4 := by have h9 := hin 1 125 (by kernel_rfl) (by kernel_rfl); exact h9.1.trans (told_is _ h9.2 rfl)
        have e1 : a'.eval (.tmp 126) = .int .i64 (k : Nat) := by have h9 := hin 2 126 (by kernel_rfl) (by kernel_rfl); exact h9.1.trans (told_is _ h9.2 rfl)
        exact o_idx71 (.tmp 125) (.tmp 126) rfl b10 4 4 k (unhide HKL) e0 e1 ⟨_, rfl, told_of rfl, Le.keepG (St := (SN V15 29 19 90)) [90] SN.loc (by omega) (by decide) hJ⟩
      | 4, ho =>
        obtain rfl := Option.some.inj ho
        have e0 : a'.eval (.tmp 127) = .pointer (some ⟨b10, k, none⟩) := by have h9 := hin 3 127 (by kernel_rfl) (by kernel_rfl); exact h9.1.trans (told_is _ h9.2 rfl)
        exact o_load39 (.tmp 127) rfl _ _ e0 ((unhide HRW).k ((unhide HK).trans hJ.1)).want ⟨_, rfl, told_of rfl, Le.keepG (St := (SN V15 29 19 90)) [90] SN.loc (by omega) (by decide) hJ⟩
      | 5, ho =>
        obtain rfl := Option.some.inj ho
        have e0 : a'.eval (.tmp 124) = .int .i64 x := by have h9 := hin 0 124 (by kernel_rfl) (by kernel_rfl); exact h9.1.trans (told_is _ h9.2 rfl)
        have e1 : a'.eval (.tmp 128) = .int .i64 x := by have h9 := hin 4 128 (by kernel_rfl) (by kernel_rfl); exact h9.1.trans (told_is _ h9.2 rfl)
        exact o_neqE (.tmp 124) (.tmp 128) rfl x e0 e1 ⟨_, rfl, told_of rfl, Le.keepG (St := (SN V15 29 19 90)) [90] SN.loc (by omega) (by decide) hJ⟩
      | 6, ho =>
        obtain rfl := Option.some.inj ho
        have e0 : a'.eval (.tmp 129) = .bool false := by have h9 := hin 5 129 (by kernel_rfl) (by kernel_rfl); exact h9.1.trans (told_is _ h9.2 rfl)
        exact wp_move (.tmp 129) rfl _ e0 ⟨_, rfl, told_of rfl, Le.keepG (St := (SN V15 29 19 90)) [90] SN.loc (by omega) (by decide) hJ⟩
      | 7, ho =>
        obtain rfl := Option.some.inj ho
        have e0 := hout 13 (by kernel_rfl)
        replace e0 : a'.eval (.tmp 13) = _ := e0.trans rfl
        exact wp_move (.tmp 13) rfl _ e0 ⟨_, rfl, told_of rfl, Le.keepG (St := (SN V15 29 19 90)) [90] SN.loc (by omega) (by decide) hJ⟩
      | 8, ho =>
        obtain rfl := Option.some.inj ho
        have e0 := hout 8 (by kernel_rfl)
        replace e0 : a'.eval (.tmp 8) = _ := e0.trans rfl
        exact wp_move (.tmp 8) rfl _ e0 ⟨_, rfl, told_of rfl, Le.keepG (St := (SN V15 29 19 90)) [90] SN.loc (by omega) (by decide) hJ⟩
      | 9, ho =>
        obtain rfl := Option.some.inj ho
        have e0 := hout 9 (by kernel_rfl)
        replace e0 : a'.eval (.tmp 9) = _ := e0.trans rfl
        exact wp_move (.tmp 9) rfl _ e0 ⟨_, rfl, told_of rfl, Le.keepG (St := (SN V15 29 19 90)) [90] SN.loc (by omega) (by decide) hJ⟩
      | 10, ho =>
        obtain rfl := Option.some.inj ho
        have e0 : a'.eval (.tmp 132) = .slice (some ⟨b10, 0, none⟩) 4 4 := by have h9 := hin 8 132 (by kernel_rfl) (by kernel_rfl); exact h9.1.trans (told_is _ h9.2 rfl)
        have e1 : a'.eval (.tmp 133) = .int .i64 (k : Nat) := by have h9 := hin 9 133 (by kernel_rfl) (by kernel_rfl); exact h9.1.trans (told_is _ h9.2 rfl)
        exact o_idx71 (.tmp 132) (.tmp 133) rfl b10 4 4 k (unhide HKL) e0 e1 ⟨_, rfl, told_of rfl, Le.keepG (St := (SN V15 29 19 90)) [90] SN.loc (by omega) (by decide) hJ⟩
      | 11, ho =>
        obtain rfl := Option.some.inj ho
        have e0 : a'.eval (.tmp 134) = .pointer (some ⟨b10, k, none⟩) := by have h9 := hin 10 134 (by kernel_rfl) (by kernel_rfl); exact h9.1.trans (told_is _ h9.2 rfl)
        exact o_load39 (.tmp 134) rfl _ _ e0 ((unhide HRW).k ((unhide HK).trans hJ.1)).want ⟨_, rfl, told_of rfl, Le.keepG (St := (SN V15 29 19 90)) [90] SN.loc (by omega) (by decide) hJ⟩
      | 12, ho =>
        obtain rfl := Option.some.inj ho
        have e0 : a'.eval (.tmp 131) = .int .i64 x := by have h9 := hin 7 131 (by kernel_rfl) (by kernel_rfl); exact h9.1.trans (told_is _ h9.2 rfl)
        have e1 : a'.eval (.tmp 135) = .int .i64 x := by have h9 := hin 11 135 (by kernel_rfl) (by kernel_rfl); exact h9.1.trans (told_is _ h9.2 rfl)
        exact o_neqE (.tmp 131) (.tmp 135) rfl x e0 e1 ⟨_, rfl, told_of rfl, Le.keepG (St := (SN V15 29 19 90)) [90] SN.loc (by omega) (by decide) hJ⟩
      | 13, ho =>
        obtain rfl := Option.some.inj ho
        have e0 : a'.eval (.tmp 130) = .bool false := by have h9 := hin 6 130 (by kernel_rfl) (by kernel_rfl); exact h9.1.trans (told_is _ h9.2 rfl)
        have e1 : a'.eval (.tmp 136) = .bool false := by have h9 := hin 12 136 (by kernel_rfl) (by kernel_rfl); exact h9.1.trans (told_is _ h9.2 rfl)
        exact o_pickOrF (.tmp 130) (.tmp 136) rfl e0 e1 ⟨_, rfl, told_of rfl, Le.keepG (St := (SN V15 29 19 90)) [90] SN.loc (by omega) (by decide) hJ⟩
      | 14, ho =>
        obtain rfl := Option.some.inj ho
        have e0 : a'.eval (.tmp 137) = .bool false := by have h9 := hin 13 137 (by kernel_rfl) (by kernel_rfl); exact h9.1.trans (told_is _ h9.2 rfl)
        exact wp_move (.tmp 137) rfl _ e0 ⟨_, rfl, told_of rfl, Le.keepG (St := (SN V15 29 19 90)) [90] SN.loc (by omega) (by decide) hJ⟩
      | 15, ho =>
        obtain rfl := Option.some.inj ho
        have e0 := hout 14 (by kernel_rfl)
        replace e0 : a'.eval (.tmp 14) = _ := e0.trans rfl
        exact wp_move (.tmp 14) rfl _ e0 ⟨_, rfl, told_of rfl, Le.keepG (St := (SN V15 29 19 90)) [90] SN.loc (by omega) (by decide) hJ⟩
      | 16, ho =>
        obtain rfl := Option.some.inj ho
        have e0 := hout 8 (by kernel_rfl)
        replace e0 : a'.eval (.tmp 8) = _ := e0.trans rfl
        exact wp_move (.tmp 8) rfl _ e0 ⟨_, rfl, told_of rfl, Le.keepG (St := (SN V15 29 19 90)) [90] SN.loc (by omega) (by decide) hJ⟩
      | 17, ho =>
        obtain rfl := Option.some.inj ho
        have e0 := hout 9 (by kernel_rfl)
        replace e0 : a'.eval (.tmp 9) = _ := e0.trans rfl
        exact wp_move (.tmp 9) rfl _ e0 ⟨_, rfl, told_of rfl, Le.keepG (St := (SN V15 29 19 90)) [90] SN.loc (by omega) (by decide) hJ⟩
      | 18, ho =>
        obtain rfl := Option.some.inj ho
        have e0 : a'.eval (.tmp 140) = .slice (some ⟨b10, 0, none⟩) 4 4 := by have h9 := hin 16 140 (by kernel_rfl) (by kernel_rfl); exact h9.1.trans (told_is _ h9.2 rfl)
        have e1 : a'.eval (.tmp 141) = .int .i64 (k : Nat) := by have h9 := hin 17 141 (by kernel_rfl) (by kernel_rfl); exact h9.1.trans (told_is _ h9.2 rfl)
        exact o_idx71 (.tmp 140) (.tmp 141) rfl b10 4 4 k (unhide HKL) e0 e1 ⟨_, rfl, told_of rfl, Le.keepG (St := (SN V15 29 19 90)) [90] SN.loc (by omega) (by decide) hJ⟩
      | 19, ho =>
        obtain rfl := Option.some.inj ho
        have e0 : a'.eval (.tmp 142) = .pointer (some ⟨b10, k, none⟩) := by have h9 := hin 18 142 (by kernel_rfl) (by kernel_rfl); exact h9.1.trans (told_is _ h9.2 rfl)
        exact o_load39 (.tmp 142) rfl _ _ e0 ((unhide HRW).k ((unhide HK).trans hJ.1)).want ⟨_, rfl, told_of rfl, Le.keepG (St := (SN V15 29 19 90)) [90] SN.loc (by omega) (by decide) hJ⟩
      | 20, ho =>
        obtain rfl := Option.some.inj ho
        have e0 : a'.eval (.tmp 139) = .int .i64 x := by have h9 := hin 15 139 (by kernel_rfl) (by kernel_rfl); exact h9.1.trans (told_is _ h9.2 rfl)
        have e1 : a'.eval (.tmp 143) = .int .i64 x := by have h9 := hin 19 143 (by kernel_rfl) (by kernel_rfl); exact h9.1.trans (told_is _ h9.2 rfl)
        exact o_neqE (.tmp 139) (.tmp 143) rfl x e0 e1 ⟨_, rfl, told_of rfl, Le.keepG (St := (SN V15 29 19 90)) [90] SN.loc (by omega) (by decide) hJ⟩
      | 21, ho =>
        obtain rfl := Option.some.inj ho
        have e0 : a'.eval (.tmp 138) = .bool false := by have h9 := hin 14 138 (by kernel_rfl) (by kernel_rfl); exact h9.1.trans (told_is _ h9.2 rfl)
        have e1 : a'.eval (.tmp 144) = .bool false := by have h9 := hin 20 144 (by kernel_rfl) (by kernel_rfl); exact h9.1.trans (told_is _ h9.2 rfl)
        exact o_pickOrF (.tmp 138) (.tmp 144) rfl e0 e1 ⟨_, rfl, told_of rfl, Le.keepG (St := (SN V15 29 19 90)) [90] SN.loc (by omega) (by decide) hJ⟩
      | 22, ho =>
        obtain rfl := Option.some.inj ho
        have e0 : a'.eval (.tmp 145) = .bool false := by have h9 := hin 21 145 (by kernel_rfl) (by kernel_rfl); exact h9.1.trans (told_is _ h9.2 rfl)
        exact wp_move (.tmp 145) rfl _ e0 ⟨_, rfl, told_of rfl, Le.keepG (St := (SN V15 29 19 90)) [90] SN.loc (by omega) (by decide) hJ⟩
      | 23, ho =>
        obtain rfl := Option.some.inj ho
        have e0 := hout 17 (by kernel_rfl)
        replace e0 : a'.eval (.tmp 17) = _ := e0.trans rfl
        exact wp_move (.tmp 17) rfl _ e0 ⟨_, rfl, told_of rfl, Le.keepG (St := (SN V15 29 19 90)) [90] SN.loc (by omega) (by decide) hJ⟩
      | 24, ho =>
        obtain rfl := Option.some.inj ho
        have e0 := hout 8 (by kernel_rfl)
        replace e0 : a'.eval (.tmp 8) = _ := e0.trans rfl
        exact wp_move (.tmp 8) rfl _ e0 ⟨_, rfl, told_of rfl, Le.keepG (St := (SN V15 29 19 90)) [90] SN.loc (by omega) (by decide) hJ⟩
      | 25, ho =>
        obtain rfl := Option.some.inj ho
        have e0 := hout 9 (by kernel_rfl)
        replace e0 : a'.eval (.tmp 9) = _ := e0.trans rfl
        exact wp_move (.tmp 9) rfl _ e0 ⟨_, rfl, told_of rfl, Le.keepG (St := (SN V15 29 19 90)) [90] SN.loc (by omega) (by decide) hJ⟩
      | 26, ho =>
        obtain rfl := Option.some.inj ho
        have e0 : a'.eval (.tmp 148) = .slice (some ⟨b10, 0, none⟩) 4 4 := by have h9 := hin 24 148 (by kernel_rfl) (by kernel_rfl); exact h9.1.trans (told_is _ h9.2 rfl)
        have e1 : a'.eval (.tmp 149) = .int .i64 (k : Nat) := by have h9 := hin 25 149 (by kernel_rfl) (by kernel_rfl); exact h9.1.trans (told_is _ h9.2 rfl)
        exact o_idx71 (.tmp 148) (.tmp 149) rfl b10 4 4 k (unhide HKL) e0 e1 ⟨_, rfl, told_of rfl, Le.keepG (St := (SN V15 29 19 90)) [90] SN.loc (by omega) (by decide) hJ⟩
      | 27, ho =>
        obtain rfl := Option.some.inj ho
        have e0 : a'.eval (.tmp 150) = .pointer (some ⟨b10, k, none⟩) := by have h9 := hin 26 150 (by kernel_rfl) (by kernel_rfl); exact h9.1.trans (told_is _ h9.2 rfl)
        exact o_load39 (.tmp 150) rfl _ _ e0 ((unhide HRW).k ((unhide HK).trans hJ.1)).want ⟨_, rfl, told_of rfl, Le.keepG (St := (SN V15 29 19 90)) [90] SN.loc (by omega) (by decide) hJ⟩
      | 28, ho =>
        obtain rfl := Option.some.inj ho
        have e0 : a'.eval (.tmp 147) = .int .i64 x := by have h9 := hin 23 147 (by kernel_rfl) (by kernel_rfl); exact h9.1.trans (told_is _ h9.2 rfl)
        have e1 : a'.eval (.tmp 151) = .int .i64 x := by have h9 := hin 27 151 (by kernel_rfl) (by kernel_rfl); exact h9.1.trans (told_is _ h9.2 rfl)
        exact o_neqE (.tmp 147) (.tmp 151) rfl x e0 e1 ⟨_, rfl, told_of rfl, Le.keepG (St := (SN V15 29 19 90)) [90] SN.loc (by omega) (by decide) hJ⟩
      | 29, ho =>
        obtain rfl := Option.some.inj ho
        have e0 : a'.eval (.tmp 146) = .bool false := by have h9 := hin 22 146 (by kernel_rfl) (by kernel_rfl); exact h9.1.trans (told_is _ h9.2 rfl)
        have e1 : a'.eval (.tmp 152) = .bool false := by have h9 := hin 28 152 (by kernel_rfl) (by kernel_rfl); exact h9.1.trans (told_is _ h9.2 rfl)
        exact o_pickOrF (.tmp 146) (.tmp 152) rfl e0 e1 ⟨_, rfl, told_of rfl, Le.keepG (St := (SN V15 29 19 90)) [90] SN.loc (by omega) (by decide) hJ⟩
      | 30, ho =>
        obtain rfl := Option.some.inj ho
        have e0 : a'.eval (.tmp 153) = .bool false := by have h9 := hin 29 153 (by kernel_rfl) (by kernel_rfl); exact h9.1.trans (told_is _ h9.2 rfl)
        exact wp_move (.tmp 153) rfl _ e0 ⟨_, rfl, told_of rfl, Le.keepG (St := (SN V15 29 19 90)) [90] SN.loc (by omega) (by decide) hJ⟩
      | 31, ho =>
        obtain rfl := Option.some.inj ho
        have e0 := hout 20 (by kernel_rfl)
        replace e0 : a'.eval (.tmp 20) = _ := e0.trans rfl
        exact wp_move (.tmp 20) rfl _ e0 ⟨_, rfl, told_of rfl, Le.keepG (St := (SN V15 29 19 90)) [90] SN.loc (by omega) (by decide) hJ⟩
      | 32, ho =>
        obtain rfl := Option.some.inj ho
        have e0 := hout 8 (by kernel_rfl)
        replace e0 : a'.eval (.tmp 8) = _ := e0.trans rfl
        exact wp_move (.tmp 8) rfl _ e0 ⟨_, rfl, told_of rfl, Le.keepG (St := (SN V15 29 19 90)) [90] SN.loc (by omega) (by decide) hJ⟩
      | 33, ho =>
        obtain rfl := Option.some.inj ho
        have e0 := hout 9 (by kernel_rfl)
        replace e0 : a'.eval (.tmp 9) = _ := e0.trans rfl
        exact wp_move (.tmp 9) rfl _ e0 ⟨_, rfl, told_of rfl, Le.keepG (St := (SN V15 29 19 90)) [90] SN.loc (by omega) (by decide) hJ⟩
      | 34, ho =>
        obtain rfl := Option.some.inj ho
        have e0 : a'.eval (.tmp 156) = .slice (some ⟨b10, 0, none⟩) 4 4 := by have h9 := hin 32 156 (by kernel_rfl) (by kernel_rfl); exact h9.1.trans (told_is _ h9.2 rfl)
        have e1 : a'.eval (.tmp 157) = .int .i64 (k : Nat) := by have h9 := hin 33 157 (by kernel_rfl) (by kernel_rfl); exact h9.1.trans (told_is _ h9.2 rfl)
        exact o_idx71 (.tmp 156) (.tmp 157) rfl b10 4 4 k (unhide HKL) e0 e1 ⟨_, rfl, told_of rfl, Le.keepG (St := (SN V15 29 19 90)) [90] SN.loc (by omega) (by decide) hJ⟩
      | 35, ho =>
        obtain rfl := Option.some.inj ho
        have e0 : a'.eval (.tmp 158) = .pointer (some ⟨b10, k, none⟩) := by have h9 := hin 34 158 (by kernel_rfl) (by kernel_rfl); exact h9.1.trans (told_is _ h9.2 rfl)
        exact o_load39 (.tmp 158) rfl _ _ e0 ((unhide HRW).k ((unhide HK).trans hJ.1)).want ⟨_, rfl, told_of rfl, Le.keepG (St := (SN V15 29 19 90)) [90] SN.loc (by omega) (by decide) hJ⟩
      | 36, ho =>
        obtain rfl := Option.some.inj ho
        have e0 : a'.eval (.tmp 155) = .int .i64 x := by have h9 := hin 31 155 (by kernel_rfl) (by kernel_rfl); exact h9.1.trans (told_is _ h9.2 rfl)
        have e1 : a'.eval (.tmp 159) = .int .i64 x := by have h9 := hin 35 159 (by kernel_rfl) (by kernel_rfl); exact h9.1.trans (told_is _ h9.2 rfl)
        exact o_neqE (.tmp 155) (.tmp 159) rfl x e0 e1 ⟨_, rfl, told_of rfl, Le.keepG (St := (SN V15 29 19 90)) [90] SN.loc (by omega) (by decide) hJ⟩
      | 37, ho =>
        obtain rfl := Option.some.inj ho
        have e0 : a'.eval (.tmp 154) = .bool false := by have h9 := hin 30 154 (by kernel_rfl) (by kernel_rfl); exact h9.1.trans (told_is _ h9.2 rfl)
        have e1 : a'.eval (.tmp 160) = .bool false := by have h9 := hin 36 160 (by kernel_rfl) (by kernel_rfl); exact h9.1.trans (told_is _ h9.2 rfl)
        exact o_pickOrF (.tmp 154) (.tmp 160) rfl e0 e1 ⟨_, rfl, told_of rfl, Le.keepG (St := (SN V15 29 19 90)) [90] SN.loc (by omega) (by decide) hJ⟩
      | 38, ho =>
        obtain rfl := Option.some.inj ho
        have e0 : a'.eval (.tmp 161) = .bool false := by have h9 := hin 37 161 (by kernel_rfl) (by kernel_rfl); exact h9.1.trans (told_is _ h9.2 rfl)
        exact wp_move (.tmp 161) rfl _ e0 ⟨_, rfl, told_of rfl, Le.keepG (St := (SN V15 29 19 90)) [90] SN.loc (by omega) (by decide) hJ⟩
      | 39, ho =>
        obtain rfl := Option.some.inj ho
        have e0 := hout 23 (by kernel_rfl)
        replace e0 : a'.eval (.tmp 23) = _ := e0.trans rfl
        exact wp_move (.tmp 23) rfl _ e0 ⟨_, rfl, told_of rfl, Le.keepG (St := (SN V15 29 19 90)) [90] SN.loc (by omega) (by decide) hJ⟩
      | 40, ho =>
        obtain rfl := Option.some.inj ho
        have e0 := hout 8 (by kernel_rfl)
        replace e0 : a'.eval (.tmp 8) = _ := e0.trans rfl
        exact wp_move (.tmp 8) rfl _ e0 ⟨_, rfl, told_of rfl, Le.keepG (St := (SN V15 29 19 90)) [90] SN.loc (by omega) (by decide) hJ⟩
      | 41, ho =>
        obtain rfl := Option.some.inj ho
        have e0 := hout 9 (by kernel_rfl)
        replace e0 : a'.eval (.tmp 9) = _ := e0.trans rfl
        exact wp_move (.tmp 9) rfl _ e0 ⟨_, rfl, told_of rfl, Le.keepG (St := (SN V15 29 19 90)) [90] SN.loc (by omega) (by decide) hJ⟩
      | 42, ho =>
        obtain rfl := Option.some.inj ho
        have e0 : a'.eval (.tmp 164) = .slice (some ⟨b10, 0, none⟩) 4 4 := by have h9 := hin 40 164 (by kernel_rfl) (by kernel_rfl); exact h9.1.trans (told_is _ h9.2 rfl)
        have e1 : a'.eval (.tmp 165) = .int .i64 (k : Nat) := by have h9 := hin 41 165 (by kernel_rfl) (by kernel_rfl); exact h9.1.trans (told_is _ h9.2 rfl)
        exact o_idx71 (.tmp 164) (.tmp 165) rfl b10 4 4 k (unhide HKL) e0 e1 ⟨_, rfl, told_of rfl, Le.keepG (St := (SN V15 29 19 90)) [90] SN.loc (by omega) (by decide) hJ⟩
      | 43, ho =>
        obtain rfl := Option.some.inj ho
        have e0 : a'.eval (.tmp 166) = .pointer (some ⟨b10, k, none⟩) := by have h9 := hin 42 166 (by kernel_rfl) (by kernel_rfl); exact h9.1.trans (told_is _ h9.2 rfl)
        exact o_load39 (.tmp 166) rfl _ _ e0 ((unhide HRW).k ((unhide HK).trans hJ.1)).want ⟨_, rfl, told_of rfl, Le.keepG (St := (SN V15 29 19 90)) [90] SN.loc (by omega) (by decide) hJ⟩
      | 44, ho =>
        obtain rfl := Option.some.inj ho
        have e0 : a'.eval (.tmp 163) = .int .i64 x := by have h9 := hin 39 163 (by kernel_rfl) (by kernel_rfl); exact h9.1.trans (told_is _ h9.2 rfl)
        have e1 : a'.eval (.tmp 167) = .int .i64 x := by have h9 := hin 43 167 (by kernel_rfl) (by kernel_rfl); exact h9.1.trans (told_is _ h9.2 rfl)
        exact o_neqE (.tmp 163) (.tmp 167) rfl x e0 e1 ⟨_, rfl, told_of rfl, Le.keepG (St := (SN V15 29 19 90)) [90] SN.loc (by omega) (by decide) hJ⟩
      | 45, ho =>
        obtain rfl := Option.some.inj ho
        have e0 : a'.eval (.tmp 162) = .bool false := by have h9 := hin 38 162 (by kernel_rfl) (by kernel_rfl); exact h9.1.trans (told_is _ h9.2 rfl)
        have e1 : a'.eval (.tmp 168) = .bool false := by have h9 := hin 44 168 (by kernel_rfl) (by kernel_rfl); exact h9.1.trans (told_is _ h9.2 rfl)
        exact o_pickOrF (.tmp 162) (.tmp 168) rfl e0 e1 ⟨_, rfl, told_of rfl, Le.keepG (St := (SN V15 29 19 90)) [90] SN.loc (by omega) (by decide) hJ⟩
      | 46, ho =>
        obtain rfl := Option.some.inj ho
        have e0 : a'.eval (.tmp 169) = .bool false := by have h9 := hin 45 169 (by kernel_rfl) (by kernel_rfl); exact h9.1.trans (told_is _ h9.2 rfl)
        exact wp_move (.tmp 169) rfl _ e0 ⟨_, rfl, told_of rfl, Le.keepG (St := (SN V15 29 19 90)) [90] SN.loc (by omega) (by decide) hJ⟩
      | 47, ho =>
        obtain rfl := Option.some.inj ho
        have e0 := hout 16 (by kernel_rfl)
        replace e0 : a'.eval (.tmp 16) = _ := e0.trans rfl
        exact wp_move (.tmp 16) rfl _ e0 ⟨_, rfl, told_of rfl, Le.keepG (St := (SN V15 29 19 90)) [90] SN.loc (by omega) (by decide) hJ⟩
      | 48, ho =>
        obtain rfl := Option.some.inj ho
        have e0 : a'.eval (.tmp 170) = .bool false := by have h9 := hin 46 170 (by kernel_rfl) (by kernel_rfl); exact h9.1.trans (told_is _ h9.2 rfl)
        have e1 : a'.eval (.tmp 171) = .bool false := by have h9 := hin 47 171 (by kernel_rfl) (by kernel_rfl); exact h9.1.trans (told_is _ h9.2 rfl)
        exact o_pickOrF (.tmp 170) (.tmp 171) rfl e0 e1 ⟨_, rfl, told_of rfl, Le.keepG (St := (SN V15 29 19 90)) [90] SN.loc (by omega) (by decide) hJ⟩
      | 49, ho =>
        obtain rfl := Option.some.inj ho
        have e0 : a'.eval (.tmp 172) = .bool false := by have h9 := hin 48 172 (by kernel_rfl) (by kernel_rfl); exact h9.1.trans (told_is _ h9.2 rfl)
        exact wp_move (.tmp 172) rfl _ e0 ⟨_, rfl, told_of rfl, Le.keepG (St := (SN V15 29 19 90)) [90] SN.loc (by omega) (by decide) hJ⟩
      | 50, ho =>
        obtain rfl := Option.some.inj ho
        have e0 := hout 19 (by kernel_rfl)
        replace e0 : a'.eval (.tmp 19) = _ := e0.trans rfl
        exact wp_move (.tmp 19) rfl _ e0 ⟨_, rfl, told_of rfl, Le.keepG (St := (SN V15 29 19 90)) [90] SN.loc (by omega) (by decide) hJ⟩
      | 51, ho =>
        obtain rfl := Option.some.inj ho
        have e0 : a'.eval (.tmp 173) = .bool false := by have h9 := hin 49 173 (by kernel_rfl) (by kernel_rfl); exact h9.1.trans (told_is _ h9.2 rfl)
        have e1 : a'.eval (.tmp 174) = .bool false := by have h9 := hin 50 174 (by kernel_rfl) (by kernel_rfl); exact h9.1.trans (told_is _ h9.2 rfl)
        exact o_pickOrF (.tmp 173) (.tmp 174) rfl e0 e1 ⟨_, rfl, told_of rfl, Le.keepG (St := (SN V15 29 19 90)) [90] SN.loc (by omega) (by decide) hJ⟩
      | 52, ho =>
        obtain rfl := Option.some.inj ho
        have e0 : a'.eval (.tmp 175) = .bool false := by have h9 := hin 51 175 (by kernel_rfl) (by kernel_rfl); exact h9.1.trans (told_is _ h9.2 rfl)
        exact wp_move (.tmp 175) rfl _ e0 ⟨_, rfl, told_of rfl, Le.keepG (St := (SN V15 29 19 90)) [90] SN.loc (by omega) (by decide) hJ⟩
      | 53, ho =>
        obtain rfl := Option.some.inj ho
        have e0 := hout 22 (by kernel_rfl)
        replace e0 : a'.eval (.tmp 22) = _ := e0.trans rfl
        exact wp_move (.tmp 22) rfl _ e0 ⟨_, rfl, told_of rfl, Le.keepG (St := (SN V15 29 19 90)) [90] SN.loc (by omega) (by decide) hJ⟩
      | 54, ho =>
        obtain rfl := Option.some.inj ho
        have e0 : a'.eval (.tmp 176) = .bool false := by have h9 := hin 52 176 (by kernel_rfl) (by kernel_rfl); exact h9.1.trans (told_is _ h9.2 rfl)
        have e1 : a'.eval (.tmp 177) = .bool false := by have h9 := hin 53 177 (by kernel_rfl) (by kernel_rfl); exact h9.1.trans (told_is _ h9.2 rfl)
        exact o_pickOrF (.tmp 176) (.tmp 177) rfl e0 e1 ⟨_, rfl, told_of rfl, Le.keepG (St := (SN V15 29 19 90)) [90] SN.loc (by omega) (by decide) hJ⟩
      | 55, ho =>
        obtain rfl := Option.some.inj ho
        have e0 : a'.eval (.tmp 178) = .bool false := by have h9 := hin 54 178 (by kernel_rfl) (by kernel_rfl); exact h9.1.trans (told_is _ h9.2 rfl)
        exact wp_move (.tmp 178) rfl _ e0 ⟨_, rfl, told_of rfl, Le.keepG (St := (SN V15 29 19 90)) [90] SN.loc (by omega) (by decide) hJ⟩
      | 56, ho =>
        obtain rfl := Option.some.inj ho
        have e0 := hout 6 (by kernel_rfl)
        replace e0 : a'.eval (.tmp 6) = _ := e0.trans rfl
        exact wp_move (.tmp 6) rfl _ e0 ⟨_, rfl, told_of rfl, Le.keepG (St := (SN V15 29 19 90)) [90] SN.loc (by omega) (by decide) hJ⟩
      | 57, ho =>
        obtain rfl := Option.some.inj ho
        have e0 := hout 9 (by kernel_rfl)
        replace e0 : a'.eval (.tmp 9) = _ := e0.trans rfl
        exact wp_move (.tmp 9) rfl _ e0 ⟨_, rfl, told_of rfl, Le.keepG (St := (SN V15 29 19 90)) [90] SN.loc (by omega) (by decide) hJ⟩
      | 58, ho =>
        obtain rfl := Option.some.inj ho
        have e0 : a'.eval (.tmp 180) = .slice (some ⟨b8, 0, none⟩) 4 4 := by have h9 := hin 56 180 (by kernel_rfl) (by kernel_rfl); exact h9.1.trans (told_is _ h9.2 rfl)
        have e1 : a'.eval (.tmp 181) = .int .i64 (k : Nat) := by have h9 := hin 57 181 (by kernel_rfl) (by kernel_rfl); exact h9.1.trans (told_is _ h9.2 rfl)
        exact o_idx69 (.tmp 180) (.tmp 181) rfl b8 4 4 k (unhide HKL) e0 e1 ⟨_, rfl, told_of rfl, Le.keepG (St := (SN V15 29 19 90)) [90] SN.loc (by omega) (by decide) hJ⟩
      | 59, ho =>
        obtain rfl := Option.some.inj ho
        have e0 : a'.eval (.tmp 182) = .pointer (some ⟨b8, k, none⟩) := by have h9 := hin 58 182 (by kernel_rfl) (by kernel_rfl); exact h9.1.trans (told_is _ h9.2 rfl)
        exact o_load32 (.tmp 182) rfl _ _ e0 ((unhide HRW).k ((unhide HK).trans hJ.1)).dev ⟨_, rfl, told_of rfl, Le.keepG (St := (SN V15 29 19 90)) [90] SN.loc (by omega) (by decide) hJ⟩
      | 60, ho =>
        obtain rfl := Option.some.inj ho
        have e0 := hout 7 (by kernel_rfl)
        replace e0 : a'.eval (.tmp 7) = _ := e0.trans rfl
        exact wp_move (.tmp 7) rfl _ e0 ⟨_, rfl, told_of rfl, Le.keepG (St := (SN V15 29 19 90)) [90] SN.loc (by omega) (by decide) hJ⟩
      | 61, ho =>
        obtain rfl := Option.some.inj ho
        have e0 := hout 9 (by kernel_rfl)
        replace e0 : a'.eval (.tmp 9) = _ := e0.trans rfl
        exact wp_move (.tmp 9) rfl _ e0 ⟨_, rfl, told_of rfl, Le.keepG (St := (SN V15 29 19 90)) [90] SN.loc (by omega) (by decide) hJ⟩
      | 62, ho =>
        obtain rfl := Option.some.inj ho
        have e0 : a'.eval (.tmp 184) = .slice (some ⟨b9, 0, none⟩) 4 4 := by have h9 := hin 60 184 (by kernel_rfl) (by kernel_rfl); exact h9.1.trans (told_is _ h9.2 rfl)
        have e1 : a'.eval (.tmp 185) = .int .i64 (k : Nat) := by have h9 := hin 61 185 (by kernel_rfl) (by kernel_rfl); exact h9.1.trans (told_is _ h9.2 rfl)
        exact o_idx70 (.tmp 184) (.tmp 185) rfl b9 4 4 k (unhide HKL) e0 e1 ⟨_, rfl, told_of rfl, Le.keepG (St := (SN V15 29 19 90)) [90] SN.loc (by omega) (by decide) hJ⟩
      | 63, ho =>
        obtain rfl := Option.some.inj ho
        have e0 : a'.eval (.tmp 186) = .pointer (some ⟨b9, k * 5, none⟩) := by have h9 := hin 62 186 (by kernel_rfl) (by kernel_rfl); exact h9.1.trans (told_is _ h9.2 rfl)
        exact wp_loadA jrow (.tmp 186) rfl b9 (k * 5) e0 (jobC j) rfl ((unhide HRW).k ((unhide HK).trans hJ.1)).jobs ⟨_, rfl, told_of rfl, Le.keepG (St := (SN V15 29 19 90)) [90] SN.loc (by omega) (by decide) hJ⟩
      | 64, ho =>
        obtain rfl := Option.some.inj ho
        exact wp_buildP #[(0, .const (.bool true)), (1, .const (.int .i64 1))] rfl #[(0, .bool true), (1, .int .i64 1)] (by simp [Act.eval]) (Vi.memC (true, 1)) (bldK26 _) ⟨_, rfl, told_of rfl, Le.keepG (St := (SN V15 29 19 90)) [90] SN.loc (by omega) (by decide) hJ⟩
      | 65, ho =>
        obtain rfl := Option.some.inj ho
        have e0 : a'.eval (.tmp 188) = aggV (Vi.memC (true, 1)) := by have h9 := hin 64 188 (by kernel_rfl) (by kernel_rfl); exact h9.1.trans (told_is _ h9.2 rfl)
        exact wp_buildP #[(0, .tmp 188)] rfl #[(0, aggV (Vi.memC (true, 1)))] (by simp [e0]) (Vi.memsC mK) (bldK27 _) ⟨_, rfl, told_of rfl, Le.keepG (St := (SN V15 29 19 90)) [90] SN.loc (by omega) (by decide) hJ⟩
      | 66, ho =>
        obtain rfl := Option.some.inj ho
        have e0 : a'.eval (.tmp 189) = aggV (Vi.memsC mK) := by have h9 := hin 65 189 (by kernel_rfl) (by kernel_rfl); exact h9.1.trans (told_is _ h9.2 rfl)
        exact wp_buildP #[(0, .const (.int .i64 1)), (3, .tmp 189)] rfl #[(0, .int .i64 1), (3, aggV (Vi.memsC mK))] (by simp [e0]; rfl) (Vi.vwC vK) (bldK29 _) ⟨_, rfl, told_of rfl, Le.keepG (St := (SN V15 29 19 90)) [90] SN.loc (by omega) (by decide) hJ⟩
      | 67, ho =>
        obtain rfl := Option.some.inj ho
        have e0 : a'.eval (.tmp 183) = .pointer ao := by have h9 := hin 59 183 (by kernel_rfl) (by kernel_rfl); exact h9.1.trans (told_is _ h9.2 rfl)
        have e1 : a'.eval (.tmp 187) = aggV (jobC j) := by have h9 := hin 63 187 (by kernel_rfl) (by kernel_rfl); exact h9.1.trans (told_is _ h9.2 rfl)
        have e2 : a'.eval (.tmp 190) = aggV (Vi.vwC vK) := by have h9 := hin 66 190 (by kernel_rfl) (by kernel_rfl); exact h9.1.trans (told_is _ h9.2 rfl)
        refine wp_callF 19 _ _ rfl #[.pointer ao, aggV (jobC j), aggV (Vi.vwC vK)] (by simp [e0, e1, e2]) (cg19 _ _) ((all_bad ((unhide HRW).k ((unhide HK).trans hJ.1)).bad ((unhide HF).kept ((unhide HKV).trans ((unhide HK).trans hJ.1))) vK rfl).mono ?_)
        rintro e w3 ⟨rfl, hk3⟩
        exact ⟨_, rfl, _, rfl, told_of rfl, Le.keepG (St := (SN V15 29 19 90)) [90] SN.loc (by omega) (by decide) (SN.step hJ hk3)⟩
      | 68, ho =>
        obtain rfl := Option.some.inj ho
        have e0 : a'.eval (.tmp 179) = .bool false := by have h9 := hin 55 179 (by kernel_rfl) (by kernel_rfl); exact h9.1.trans (told_is _ h9.2 rfl)
        have e1 : a'.eval (.tmp 191) = .bool false := by have h9 := hin 67 191 (by kernel_rfl) (by kernel_rfl); exact h9.1.trans (told_is _ h9.2 rfl)
        exact o_pickOrF (.tmp 179) (.tmp 191) rfl e0 e1 ⟨_, rfl, told_of rfl, Le.keepG (St := (SN V15 29 19 90)) [90] SN.loc (by omega) (by decide) hJ⟩
    intro l_ vs_V16 V16 hl hJ htold
    have t0 : vs_V16 0 = .int .i64 x := told_is _ (htold 0 (by decide)) rfl
    have t1 : vs_V16 1 = .slice (some ⟨b10, 0, none⟩) 4 4 := told_is _ (htold 1 (by decide)) rfl
    have t2 : vs_V16 2 = .int .i64 (k : Nat) := told_is _ (htold 2 (by decide)) rfl
    have t3 : vs_V16 3 = .pointer (some ⟨b10, k, none⟩) := told_is _ (htold 3 (by decide)) rfl
    have t4 : vs_V16 4 = .int .i64 x := told_is _ (htold 4 (by decide)) rfl
    have t5 : vs_V16 5 = .bool false := told_is _ (htold 5 (by decide)) rfl
    have t6 : vs_V16 6 = .bool false := told_is _ (htold 6 (by decide)) rfl
    have t7 : vs_V16 7 = .int .i64 x := told_is _ (htold 7 (by decide)) rfl
    have t8 : vs_V16 8 = .slice (some ⟨b10, 0, none⟩) 4 4 := told_is _ (htold 8 (by decide)) rfl
    have t9 : vs_V16 9 = .int .i64 (k : Nat) := told_is _ (htold 9 (by decide)) rfl
    have t10 : vs_V16 10 = .pointer (some ⟨b10, k, none⟩) := told_is _ (htold 10 (by decide)) rfl
    have t11 : vs_V16 11 = .int .i64 x := told_is _ (htold 11 (by decide)) rfl
    have t12 : vs_V16 12 = .bool false := told_is _ (htold 12 (by decide)) rfl
    have t13 : vs_V16 13 = .bool false := told_is _ (htold 13 (by decide)) rfl
    have t14 : vs_V16 14 = .bool false := told_is _ (htold 14 (by decide)) rfl
    have t15 : vs_V16 15 = .int .i64 x := told_is _ (htold 15 (by decide)) rfl
    have t16 : vs_V16 16 = .slice (some ⟨b10, 0, none⟩) 4 4 := told_is _ (htold 16 (by decide)) rfl
    have t17 : vs_V16 17 = .int .i64 (k : Nat) := told_is _ (htold 17 (by decide)) rfl
    have t18 : vs_V16 18 = .pointer (some ⟨b10, k, none⟩) := told_is _ (htold 18 (by decide)) rfl
    have t19 : vs_V16 19 = .int .i64 x := told_is _ (htold 19 (by decide)) rfl
    have t20 : vs_V16 20 = .bool false := told_is _ (htold 20 (by decide)) rfl
    have t21 : vs_V16 21 = .bool false := told_is _ (htold 21 (by decide)) rfl
    have t22 : vs_V16 22 = .bool false := told_is _ (htold 22 (by decide)) rfl
    have t23 : vs_V16 23 = .int .i64 x := told_is _ (htold 23 (by decide)) rfl
    have t24 : vs_V16 24 = .slice (some ⟨b10, 0, none⟩) 4 4 := told_is _ (htold 24 (by decide)) rfl
    have t25 : vs_V16 25 = .int .i64 (k : Nat) := told_is _ (htold 25 (by decide)) rfl
    have t26 : vs_V16 26 = .pointer (some ⟨b10, k, none⟩) := told_is _ (htold 26 (by decide)) rfl
    have t27 : vs_V16 27 = .int .i64 x := told_is _ (htold 27 (by decide)) rfl
    have t28 : vs_V16 28 = .bool false := told_is _ (htold 28 (by decide)) rfl
    have t29 : vs_V16 29 = .bool false := told_is _ (htold 29 (by decide)) rfl
    have t30 : vs_V16 30 = .bool false := told_is _ (htold 30 (by decide)) rfl
    have t31 : vs_V16 31 = .int .i64 x := told_is _ (htold 31 (by decide)) rfl
    have t32 : vs_V16 32 = .slice (some ⟨b10, 0, none⟩) 4 4 := told_is _ (htold 32 (by decide)) rfl
    have t33 : vs_V16 33 = .int .i64 (k : Nat) := told_is _ (htold 33 (by decide)) rfl
    have t34 : vs_V16 34 = .pointer (some ⟨b10, k, none⟩) := told_is _ (htold 34 (by decide)) rfl
    have t35 : vs_V16 35 = .int .i64 x := told_is _ (htold 35 (by decide)) rfl
    have t36 : vs_V16 36 = .bool false := told_is _ (htold 36 (by decide)) rfl
    have t37 : vs_V16 37 = .bool false := told_is _ (htold 37 (by decide)) rfl
    have t38 : vs_V16 38 = .bool false := told_is _ (htold 38 (by decide)) rfl
    have t39 : vs_V16 39 = .int .i64 x := told_is _ (htold 39 (by decide)) rfl
    have t40 : vs_V16 40 = .slice (some ⟨b10, 0, none⟩) 4 4 := told_is _ (htold 40 (by decide)) rfl
    have t41 : vs_V16 41 = .int .i64 (k : Nat) := told_is _ (htold 41 (by decide)) rfl
    have t42 : vs_V16 42 = .pointer (some ⟨b10, k, none⟩) := told_is _ (htold 42 (by decide)) rfl
    have t43 : vs_V16 43 = .int .i64 x := told_is _ (htold 43 (by decide)) rfl
    have t44 : vs_V16 44 = .bool false := told_is _ (htold 44 (by decide)) rfl
    have t45 : vs_V16 45 = .bool false := told_is _ (htold 45 (by decide)) rfl
    have t46 : vs_V16 46 = .bool false := told_is _ (htold 46 (by decide)) rfl
    have t47 : vs_V16 47 = .bool false := told_is _ (htold 47 (by decide)) rfl
    have t48 : vs_V16 48 = .bool false := told_is _ (htold 48 (by decide)) rfl
    have t49 : vs_V16 49 = .bool false := told_is _ (htold 49 (by decide)) rfl
    have t50 : vs_V16 50 = .bool false := told_is _ (htold 50 (by decide)) rfl
    have t51 : vs_V16 51 = .bool false := told_is _ (htold 51 (by decide)) rfl
    have t52 : vs_V16 52 = .bool false := told_is _ (htold 52 (by decide)) rfl
    have t53 : vs_V16 53 = .bool false := told_is _ (htold 53 (by decide)) rfl
    have t54 : vs_V16 54 = .bool false := told_is _ (htold 54 (by decide)) rfl
    have t55 : vs_V16 55 = .bool false := told_is _ (htold 55 (by decide)) rfl
    have t56 : vs_V16 56 = .slice (some ⟨b8, 0, none⟩) 4 4 := told_is _ (htold 56 (by decide)) rfl
    have t57 : vs_V16 57 = .int .i64 (k : Nat) := told_is _ (htold 57 (by decide)) rfl
    have t58 : vs_V16 58 = .pointer (some ⟨b8, k, none⟩) := told_is _ (htold 58 (by decide)) rfl
    have t59 : vs_V16 59 = .pointer ao := told_is _ (htold 59 (by decide)) rfl
    have t60 : vs_V16 60 = .slice (some ⟨b9, 0, none⟩) 4 4 := told_is _ (htold 60 (by decide)) rfl
    have t61 : vs_V16 61 = .int .i64 (k : Nat) := told_is _ (htold 61 (by decide)) rfl
    have t62 : vs_V16 62 = .pointer (some ⟨b9, k * 5, none⟩) := told_is _ (htold 62 (by decide)) rfl
    have t63 : vs_V16 63 = aggV (jobC j) := told_is _ (htold 63 (by decide)) rfl
    have t64 : vs_V16 64 = aggV (Vi.memC (true, 1)) := told_is _ (htold 64 (by decide)) rfl
    have t65 : vs_V16 65 = aggV (Vi.memsC mK) := told_is _ (htold 65 (by decide)) rfl
    have t66 : vs_V16 66 = aggV (Vi.vwC vK) := told_is _ (htold 66 (by decide)) rfl
    have t67 : vs_V16 67 = .bool false := told_is _ (htold 67 (by decide)) rfl
    have t68 : vs_V16 68 = .bool false := told_is _ (htold 68 (by decide)) rfl
    rw [show (List.range 69).map vs_V16 = (vs_V16 0 :: vs_V16 1 :: vs_V16 2 :: vs_V16 3 :: vs_V16 4 :: vs_V16 5 :: vs_V16 6 :: vs_V16 7 :: vs_V16 8 :: vs_V16 9 :: vs_V16 10 :: vs_V16 11 :: vs_V16 12 :: vs_V16 13 :: vs_V16 14 :: vs_V16 15 :: vs_V16 16 :: vs_V16 17 :: vs_V16 18 :: vs_V16 19 :: vs_V16 20 :: vs_V16 21 :: vs_V16 22 :: vs_V16 23 :: vs_V16 24 :: vs_V16 25 :: vs_V16 26 :: vs_V16 27 :: vs_V16 28 :: vs_V16 29 :: vs_V16 30 :: vs_V16 31 :: vs_V16 32 :: vs_V16 33 :: vs_V16 34 :: vs_V16 35 :: vs_V16 36 :: vs_V16 37 :: vs_V16 38 :: vs_V16 39 :: vs_V16 40 :: vs_V16 41 :: vs_V16 42 :: vs_V16 43 :: vs_V16 44 :: vs_V16 45 :: vs_V16 46 :: vs_V16 47 :: vs_V16 48 :: vs_V16 49 :: vs_V16 50 :: vs_V16 51 :: vs_V16 52 :: vs_V16 53 :: vs_V16 54 :: vs_V16 55 :: vs_V16 56 :: vs_V16 57 :: vs_V16 58 :: vs_V16 59 :: vs_V16 60 :: vs_V16 61 :: vs_V16 62 :: vs_V16 63 :: vs_V16 64 :: vs_V16 65 :: vs_V16 66 :: vs_V16 67 :: vs_V16 68 :: []) from rfl]
    simp only [t0, t1, t2, t3, t4, t5, t6, t7, t8, t9, t10, t11, t12, t13, t14, t15, t16, t17, t18, t19, t20, t21, t22, t23, t24, t25, t26, t27, t28, t29, t30, t31, t32, t33, t34, t35, t36, t37, t38, t39, t40, t41, t42, t43, t44, t45, t46, t47, t48, t49, t50, t51, t52, t53, t54, t55, t56, t57, t58, t59, t60, t61, t62, t63, t64, t65, t66, t67, t68, putAll, Act.put, List.setIfInBounds_toArray, List.set_cons_succ, List.set_cons_zero]
    clear t0 t1 t2 t3 t4 t5 t6 t7 t8 t9 t10 t11 t12 t13 t14 t15 t16 t17 t18 t19 t20 t21 t22 t23 t24 t25 t26 t27 t28 t29 t30 t31 t32 t33 t34 t35 t36 t37 t38 t39 t40 t41 t42 t43 t44 t45 t46 t47 t48 t49 t50 t51 t52 t53 t54 t55 t56 t57 t58 t59 t60 t61 t62 t63 t64 t65 t66 t67 t68 htold
    replace HMK := hide ((unhide HMK).kept0 hJ.1)
    replace HK := hide ((unhide HK).trans hJ.1)
    clear hJ hl
    go_wp2_with fail
    refine wp_region_any mixed (wpAny_gx 13 rfl (by kernel_rfl) [some (.slice (some ⟨b8, 0, none⟩) 4 4), some (.int .i64 (k : Nat)), some (.pointer (some ⟨b8, k, none⟩)), some (.pointer ao), some (.slice (some ⟨b9, 0, none⟩) 4 4), some (.int .i64 (k : Nat)), some (.pointer (some ⟨b9, k * 5, none⟩)), some (aggV (jobC j)), some (aggV (Vi.memC (true, 1))), some (aggV (Vi.memsC mK)), some (aggV (Vi.vwC vK)), none, none] rfl (by kernel_rfl) (fun l vs W => (SK V16 ao j) (fun i => l.getD i false) vs W) (⟨(Kept.refl _ _).drew, (fun h => by cases h), (fun h => by cases h)⟩) ?_ ?_)
    · intro ix o' hi ho a' w2 l vs hls hlf hJ hout hin hdep hnot
      match ix, ho with
      | 0, ho =>
        obtain rfl := Option.some.inj ho
        have e0 := hout 6 (by kernel_rfl)
        replace e0 : a'.eval (.tmp 6) = _ := e0.trans rfl
        exact wp_move (.tmp 6) rfl _ e0 ⟨_, rfl, told_of rfl, Le.keepG (St := (SK V16 ao j)) [11, 12] SK.loc (by omega) (by decide) hJ⟩
      | 1, ho =>
        obtain rfl := Option.some.inj ho
        have e0 := hout 9 (by kernel_rfl)
        replace e0 : a'.eval (.tmp 9) = _ := e0.trans rfl
        exact wp_move (.tmp 9) rfl _ e0 ⟨_, rfl, told_of rfl, Le.keepG (St := (SK V16 ao j)) [11, 12] SK.loc (by omega) (by decide) hJ⟩
      | 2, ho =>
        obtain rfl := Option.some.inj ho
        have e0 : a'.eval (.tmp 193) = .slice (some ⟨b8, 0, none⟩) 4 4 := by have h9 := hin 0 193 (by kernel_rfl) (by kernel_rfl); exact h9.1.trans (told_is _ h9.2 rfl)
        have e1 : a'.eval (.tmp 194) = .int .i64 (k : Nat) := by have h9 := hin 1 194 (by kernel_rfl) (by kernel_rfl); exact h9.1.trans (told_is _ h9.2 rfl)
        exact o_idx69 (.tmp 193) (.tmp 194) rfl b8 4 4 k (unhide HKL) e0 e1 ⟨_, rfl, told_of rfl, Le.keepG (St := (SK V16 ao j)) [11, 12] SK.loc (by omega) (by decide) hJ⟩
      | 3, ho =>
        obtain rfl := Option.some.inj ho
        have e0 : a'.eval (.tmp 195) = .pointer (some ⟨b8, k, none⟩) := by have h9 := hin 2 195 (by kernel_rfl) (by kernel_rfl); exact h9.1.trans (told_is _ h9.2 rfl)
        exact o_load32 (.tmp 195) rfl _ _ e0 ((unhide HRW).k ((unhide HK).trans hJ.1)).dev ⟨_, rfl, told_of rfl, Le.keepG (St := (SK V16 ao j)) [11, 12] SK.loc (by omega) (by decide) hJ⟩
      | 4, ho =>
        obtain rfl := Option.some.inj ho
        have e0 := hout 7 (by kernel_rfl)
        replace e0 : a'.eval (.tmp 7) = _ := e0.trans rfl
        exact wp_move (.tmp 7) rfl _ e0 ⟨_, rfl, told_of rfl, Le.keepG (St := (SK V16 ao j)) [11, 12] SK.loc (by omega) (by decide) hJ⟩
      | 5, ho =>
        obtain rfl := Option.some.inj ho
        have e0 := hout 9 (by kernel_rfl)
        replace e0 : a'.eval (.tmp 9) = _ := e0.trans rfl
        exact wp_move (.tmp 9) rfl _ e0 ⟨_, rfl, told_of rfl, Le.keepG (St := (SK V16 ao j)) [11, 12] SK.loc (by omega) (by decide) hJ⟩
      | 6, ho =>
        obtain rfl := Option.some.inj ho
        have e0 : a'.eval (.tmp 197) = .slice (some ⟨b9, 0, none⟩) 4 4 := by have h9 := hin 4 197 (by kernel_rfl) (by kernel_rfl); exact h9.1.trans (told_is _ h9.2 rfl)
        have e1 : a'.eval (.tmp 198) = .int .i64 (k : Nat) := by have h9 := hin 5 198 (by kernel_rfl) (by kernel_rfl); exact h9.1.trans (told_is _ h9.2 rfl)
        exact o_idx70 (.tmp 197) (.tmp 198) rfl b9 4 4 k (unhide HKL) e0 e1 ⟨_, rfl, told_of rfl, Le.keepG (St := (SK V16 ao j)) [11, 12] SK.loc (by omega) (by decide) hJ⟩
      | 7, ho =>
        obtain rfl := Option.some.inj ho
        have e0 : a'.eval (.tmp 199) = .pointer (some ⟨b9, k * 5, none⟩) := by have h9 := hin 6 199 (by kernel_rfl) (by kernel_rfl); exact h9.1.trans (told_is _ h9.2 rfl)
        exact wp_loadA jrow (.tmp 199) rfl b9 (k * 5) e0 (jobC j) rfl ((unhide HRW).k ((unhide HK).trans hJ.1)).jobs ⟨_, rfl, told_of rfl, Le.keepG (St := (SK V16 ao j)) [11, 12] SK.loc (by omega) (by decide) hJ⟩
      | 8, ho =>
        obtain rfl := Option.some.inj ho
        exact wp_buildP #[(0, .const (.bool true)), (1, .const (.int .i64 1))] rfl #[(0, .bool true), (1, .int .i64 1)] (by simp [Act.eval]) (Vi.memC (true, 1)) (bldK26 _) ⟨_, rfl, told_of rfl, Le.keepG (St := (SK V16 ao j)) [11, 12] SK.loc (by omega) (by decide) hJ⟩
      | 9, ho =>
        obtain rfl := Option.some.inj ho
        have e0 : a'.eval (.tmp 201) = aggV (Vi.memC (true, 1)) := by have h9 := hin 8 201 (by kernel_rfl) (by kernel_rfl); exact h9.1.trans (told_is _ h9.2 rfl)
        exact wp_buildP #[(0, .tmp 201)] rfl #[(0, aggV (Vi.memC (true, 1)))] (by simp [e0]) (Vi.memsC mK) (bldK27 _) ⟨_, rfl, told_of rfl, Le.keepG (St := (SK V16 ao j)) [11, 12] SK.loc (by omega) (by decide) hJ⟩
      | 10, ho =>
        obtain rfl := Option.some.inj ho
        have e0 : a'.eval (.tmp 202) = aggV (Vi.memsC mK) := by have h9 := hin 9 202 (by kernel_rfl) (by kernel_rfl); exact h9.1.trans (told_is _ h9.2 rfl)
        exact wp_buildP #[(0, .const (.int .i64 1)), (3, .tmp 202)] rfl #[(0, .int .i64 1), (3, aggV (Vi.memsC mK))] (by simp [e0]; rfl) (Vi.vwC vK) (bldK29 _) ⟨_, rfl, told_of rfl, Le.keepG (St := (SK V16 ao j)) [11, 12] SK.loc (by omega) (by decide) hJ⟩
      | 11, ho =>
        obtain rfl := Option.some.inj ho
        have e0 : a'.eval (.tmp 196) = .pointer ao := by have h9 := hin 3 196 (by kernel_rfl) (by kernel_rfl); exact h9.1.trans (told_is _ h9.2 rfl)
        have e1 : a'.eval (.tmp 200) = aggV (jobC j) := by have h9 := hin 7 200 (by kernel_rfl) (by kernel_rfl); exact h9.1.trans (told_is _ h9.2 rfl)
        have e2 : a'.eval (.tmp 203) = aggV (Vi.vwC vK) := by have h9 := hin 10 203 (by kernel_rfl) (by kernel_rfl); exact h9.1.trans (told_is _ h9.2 rfl)
        refine wp_callF 35 _ _ rfl #[.pointer ao, aggV (jobC j), aggV (Vi.vwC vK)] (by simp [e0, e1, e2]) (cg35 _ _) ((ready35 ao j vK w2).mono ?_)
        rintro e w3 ⟨c1, c2, c3, rfl, h1, h2, h3, hk3⟩
        exact ⟨_, rfl, _, rfl, told_no rfl, Le.nextG (St := (SK V16 ao j)) (by omega) ⟨hJ.1.trans hk3, (fun _ => ⟨c1, c2, c3, rfl, h1, h2, h3⟩), (fun h => by have h : l.getD 12 false = true := h; rw [show l.getD 12 false = false from hnot 12 (by kernel_rfl)] at h; cases h)⟩⟩
      | 12, ho =>
        obtain rfl := Option.some.inj ho
        have e0 : a'.eval (.tmp 204) = vs 11 := (hin 11 204 (by kernel_rfl) (by kernel_rfl)).1
        have h11 : l.getD 11 false = true := hdep 11 (by kernel_rfl)
        exact wp_assignV (.tmp 204) rfl _ e0 ⟨_, rfl, told_no rfl, Le.nextG (St := (SK V16 ao j)) (by omega) ⟨hJ.1, hJ.2.1, fun _ => ⟨h11, rfl⟩⟩⟩
    intro l_ vs_V18 V18 hl hJ htold
    have t0 : vs_V18 0 = .slice (some ⟨b8, 0, none⟩) 4 4 := told_is _ (htold 0 (by decide)) rfl
    have t1 : vs_V18 1 = .int .i64 (k : Nat) := told_is _ (htold 1 (by decide)) rfl
    have t2 : vs_V18 2 = .pointer (some ⟨b8, k, none⟩) := told_is _ (htold 2 (by decide)) rfl
    have t3 : vs_V18 3 = .pointer ao := told_is _ (htold 3 (by decide)) rfl
    have t4 : vs_V18 4 = .slice (some ⟨b9, 0, none⟩) 4 4 := told_is _ (htold 4 (by decide)) rfl
    have t5 : vs_V18 5 = .int .i64 (k : Nat) := told_is _ (htold 5 (by decide)) rfl
    have t6 : vs_V18 6 = .pointer (some ⟨b9, k * 5, none⟩) := told_is _ (htold 6 (by decide)) rfl
    have t7 : vs_V18 7 = aggV (jobC j) := told_is _ (htold 7 (by decide)) rfl
    have t8 : vs_V18 8 = aggV (Vi.memC (true, 1)) := told_is _ (htold 8 (by decide)) rfl
    have t9 : vs_V18 9 = aggV (Vi.memsC mK) := told_is _ (htold 9 (by decide)) rfl
    have t10 : vs_V18 10 = aggV (Vi.vwC vK) := told_is _ (htold 10 (by decide)) rfl
    rw [show (List.range 13).map vs_V18 = [vs_V18 0, vs_V18 1, vs_V18 2, vs_V18 3, vs_V18 4, vs_V18 5, vs_V18 6, vs_V18 7, vs_V18 8, vs_V18 9, vs_V18 10, vs_V18 11, vs_V18 12] from rfl]
    simp only [t0, t1, t2, t3, t4, t5, t6, t7, t8, t9, t10, putAll, Act.put, List.setIfInBounds_toArray, List.set_cons_succ, List.set_cons_zero]
    clear t0 t1 t2 t3 t4 t5 t6 t7 t8 t9 t10 htold
    obtain ⟨c1, c2, c3, hc, h1, h2, h3⟩ := hJ.2.1 (hl 11 (by decide))
    have hE := (hJ.2.2 (hl 12 (by decide))).2
    rw [hE, hc]
    have HC1 := hide h1
    have HC2 := hide h2
    have HC3 := hide h3
    clear h1 h2 h3 hc hE
    have heq : ∀ W : World, (binOp BinOp.eql 81 (fnV 93 #[P0 c1, P0 c2, P0 c3]) Value.nilFunc).run Tryz.prog W = .ok (.bool false) W := fun W => by kernel_rfl
    have heqg : ∀ W : World, (eqGuard BinOp.eql 81 (.tmp 205) (.const Value.nilFunc) (fnV 93 #[P0 c1, P0 c2, P0 c3]) Value.nilFunc).run Tryz.prog W = .ok () W := fun W => by kernel_rfl
    replace HMK := hide ((unhide HMK).kept0 hJ.1)
    replace HK := hide ((unhide HK).trans hJ.1)
    clear hJ hl
    go_wp2_with fail
    rw [← wpIn_wide (n := 3)]
    refine wp_rangeR c1 c2 c3 ao o j vK [] (rl_bad (unhide HRW).bad vK).symm rfl rfl (unhide HC1) (unhide HC2) (unhide HC3) ((unhide HRW).k (unhide HK)).bad.dq ((unhide HF).kept ((unhide HKV).trans (unhide HK))) rfl
      (fun _ W => Kept [] V18 W) (fun _ _ _ => False) ?hI ?hIx (Kept.refl _ _) (fun _ _ _ _ => False) ?hFr ?assign ?body ?done ?stop
    case hI =>
      intro s A B row hs hg hr
      exact Vi.kept_kept hs hg (Nat.le_refl _) (fun r e => (hr r e).1)
    case hIx =>
      intro c s A B row hs hg hr
      exact hs
    case hFr =>
      intro k y a' s A B row hs hg hr
      exact hs
    case assign =>
      intro l q y W K hI hy hK
      simp at hy
    case body =>
      rintro l q y a' W hy hf
      exact hf.elim
    case done =>
      rintro E W hE hI hKE
      have HMK2 : Hid (Mks w W (E :: Ds)) := Mks.cons (unhide HMK) hI hE (Nat.le_trans ((unhide HKV).trans (unhide HK)).size hE) hKE
      have HK2 : Hid (Kept [] W10 W) := (unhide HK).trans hI
      clear hI hKE HMK HK heq heqg
      go_wp2_with fail
      refine unhide HKK _ _ ⟨k + 1, E :: Ds, ⟨_, _, _, _, _, _, _, _, _, _, _, _, _, _, _, _, _, _, _, _, _, _, _, _, _, _, _, _, _, _, _, _, _, _, _, _, _, _, _, _, _, _, _, _, _, _, _, _, _, _, _, _, _, _, _, _, _, _, _, _, _, _, _, _, _, _, _, _, _, _, _, _, _, _, _, _, _, _, _, _, _, _, _, _, _, _, _, _, _, _, _, _, _, _, _, _, _, _, _, _, _, _, _, _, _, _, _, _, _, _, _, _, _, _, _, _, _, _, _, _, _, _, _, _, _, _, _, _, _, _, _, _, _, _, _, _, _, _, _, _, _, _, _, _, _, _, _, _, _, _, _, _, _, _, _, _, _, _, _, _, _, _, _, _, _, _, _, _, _, _, _, _, _, _, _, _, _, _, _, _, _, _, _, _, _, _, _, _, _, _, _, _, _, _, _, _, _, _, _, _, _⟩, rfl, by omega, HK2, HMK2⟩ ?_
      simp [intOf]; omega
    case stop =>
      rintro E c q W hE hq hf hKE
      exact hf.elim
  · have hk : k = 4 := by omega
    subst hk
    have P9 := hide (known9 wr ((unhide HF).kept ((unhide HKV).trans (unhide HK))))
    go_wp2_with (
      first
      | (go_at_call 9
         refine (unhide P9).mono ?_
         rintro e W9 ⟨rfl, k9⟩
         replace HMK := hide ((unhide HMK).kept0 k9)
         replace HK := hide ((unhide HK).trans k9)
         clear k9
         refine Stp.go ?_))
    constructor
    have M9 : Hid (Mm [b1] W9 W9 [(b1, 4, [.bool false])]) := Le.Mm.one ((unhide HB0).kept (unhide HK) (by simp))
    go_wp2_with (
      first
      | (refine wpStoreM1 Vi.size4 rfl (.tmp 0) (.tmp 210) rfl rfl b1 0 0 (.bool true) ⟨rfl, rfl⟩ rfl rfl (unhide M9) rfl (by simp) ?_
         intro W10 N10
         have M10 : Hid (Mm [b1] W9 W10 [(b1, 4, [.bool true])]) := N10
         clear N10
         refine Stp.go ?_))
    constructor
    go_wp2_with fail
    have hm10 : Mks w W10 Ds := ⟨(unhide HMK).nd, fun D hD => ⟨((unhide HMK).ats D hD).1, (unhide M10).kept.heap ((unhide HMK).ats D hD).2 (fun e => by
      simp at e
      subst e
      have h1 := ((unhide HMK).ats _ hD).2
      have h2 := (unhide HB0).kept (unhide HK) (by simp)
      unfold Blk at h2
      rw [h1] at h2
      cases h2)⟩⟩
    exact leaves7 rfl Ds W10 hm10 ((unhide M10).at 0 _ rfl) (((unhide HKV).trans (unhide HK)).upNew (unhide M10).kept (by simpa using unhide HB0N))
theorem nil7 (w : World) (hF : Vi.First w) : Calls Tryz.prog 7 #[] w fun e w' => e = .returned (.bool true) ∧ Kept [] w w' := callsIn_wide.1 (nil_in w hF)

end Go.Proofs.YtcfflbafclmheaaGreatDoor
