/-
  Ready: the members gone over, each with whether it is ready.
-/
import Derived.Test.YtcfflbafclmheaaGreatDoorCo
import Derived.Test.YtcfflbafclmheaaGreatDoorCh
import Derived.Test.YtcfflbafclmheaaGreatDoorCg

/-
  Say.
-/
namespace Go.Proofs.YtcfflbafclmheaaGreatDoor
set_option maxRecDepth 100000
set_option linter.unusedSimpArgs false
open Go.RowKit
open Le (Mm wpStoreM wpStoreM1)


theorem bs95_6 (w : World) (f0 f1 f2 f3 f4 f5 : FuncId) (c0 c1 c2 c3 c4 c5 : Array Value) : (Instr.buildSlice 95 6 #[(0, fnV f0 c0), (1, fnV f1 c1), (2, fnV f2 c2), (3, fnV f3 c3), (4, fnV f4 c4), (5, fnV f5 c5)]).run Tryz.prog w = .ok (.slice (some ⟨w.heap.size, 0, none⟩) 6 6) (w.alloc (.cells [fnV f0 c0, fnV f1 c1, fnV f2 c2, fnV f3 c3, fnV f4 c4, fnV f5 c5].toArray 92)) := by kernel_rfl
theorem o_bs6 {o : Oper} {a : Act} {w : World} {K : Act → World → Prop} {Q : Exit → Act → World → Prop} (x0 x1 x2 x3 x4 x5 : Operand) (ho : o.op = .buildSlice 95 6 #[(0, x0), (1, x1), (2, x2), (3, x3), (4, x4), (5, x5)]) (u0 u1 u2 u3 : Value) (f4 f5 : FuncId) (d4 d5 : Array Value) (h0 : a.eval x0 = u0) (h1 : a.eval x1 = u1) (h2 : a.eval x2 = u2) (h3 : a.eval x3 = u3) (h4 : a.eval x4 = fnV f4 d4) (h5 : a.eval x5 = fnV f5 d5)
    {y0 y1 y2 y3 : Int} {w0 w1 w2 w3 : World} (q0 : Ques w0 u0 y0) (q1 : Ques w1 u1 y1) (q2 : Ques w2 u2 y2) (q3 : Ques w3 u3 y3) (h : K (a.put o.dst (.slice (some ⟨w.heap.size, 0, none⟩) 6 6)) (w.alloc (.cells [u0, u1, u2, u3, fnV f4 d4, fnV f5 d5].toArray 92))) : o.wp Tryz.prog a w K Q := by
  obtain ⟨f0, c0, rfl, -⟩ := q0
  obtain ⟨f1, c1, rfl, -⟩ := q1
  obtain ⟨f2, c2, rfl, -⟩ := q2
  obtain ⟨f3, c3, rfl, -⟩ := q3
  unfold Oper.wp execOp
  simp only [ho, List.map_toArray, List.map_cons, List.map_nil, h0, h1, h2, h3, h4, h5, Sem.run_bind, bs95_6, Result.andThen_ok]
  exact h
/-- Questions are made one by one, then the row of them and of two more, then they are asked. -/
@[reducible] def SY (w : World) (bs : List (Nat × Nat × List Value)) (R : World → Prop) (F : List Value) (qs : List (Nat × Int)) (d : Nat → Bool) (vs : Nat → Value) (W : World) : Prop :=
  (d 16 = false → Mm [] w W bs ∧ (∀ q ∈ qs, d q.1 = true → Ques W (vs q.1) q.2) ∧ (d 15 = true → (∀ q ∈ qs, d q.1 = true) ∧ ∃ p, vs 15 = .slice (some ⟨p, 0, none⟩) 6 6 ∧ Blk W p 92 ((qs.map fun q => vs q.1) ++ F))) ∧ (d 16 = true → R W)
section
variable {w : World} {bs : List (Nat × Nat × List Value)} {R : World → Prop} {F : List Value} {qs : List (Nat × Int)} {d : Nat → Bool} {vs : Nat → Value} {W W' : World}
theorem SY.loc : ∀ d d' vs vs' W, (∀ i ∈ 16 :: 15 :: qs.map Prod.fst, d i = d' i ∧ vs i = vs' i) → SY w bs R F qs d vs W → SY w bs R F qs d' vs' W := by
  intro d d' vs vs' W H h
  have ek := H 16 (by simp)
  have es := H 15 (by simp)
  have eq : ∀ q ∈ qs, d q.1 = d' q.1 ∧ vs q.1 = vs' q.1 := fun q hq => H q.1 (by simp; exact .inr (.inr ⟨q.2, hq⟩))
  have em : (qs.map fun q => vs q.1) = qs.map fun q => vs' q.1 := List.map_congr_left fun q hq => (eq q hq).2
  unfold SY at h ⊢
  rw [← ek.1, ← es.1, ← es.2, ← em]
  refine ⟨fun h0 => ?_, h.2⟩
  obtain ⟨h1, h2, h3⟩ := h.1 h0
  refine ⟨h1, fun q hq hd => ?_, fun hs => ?_⟩
  · rw [← (eq q hq).2]
    exact h2 q hq (by rw [(eq q hq).1]; exact hd)
  · obtain ⟨h4, h5⟩ := h3 hs
    exact ⟨fun q hq => by rw [← (eq q hq).1]; exact h4 q hq, h5⟩
theorem SY.ask (h : SY w bs R F qs d vs W) (hd : d 16 = false) (hs : d 15 = false) (hk : Kept [] W W') {i : Nat} {v : Value} {x : Int} (hq : Ques W' v x) (hik : 16 ≠ i) (his : 15 ≠ i) (hx : ∀ q ∈ qs, q.1 = i → q.2 = x) :
    SY w bs R F qs (fun j => if j = i then true else d j) (fun j => if j = i then v else vs j) W' := by
  obtain ⟨h1, h2, -⟩ := h.1 hd
  refine ⟨fun _ => ⟨h1.step hk, fun q hq' hdq => ?_, fun h9 => ?_⟩, fun h9 => ?_⟩
  · dsimp only at *
    by_cases e : q.1 = i
    · rw [if_pos e, hx q hq' e]
      exact hq
    · rw [if_neg e] at hdq ⊢
      exact (h2 q hq' hdq).mono hk
  · dsimp only at *
    rw [if_neg his, hs] at h9; cases h9
  · dsimp only at *
    rw [if_neg hik, hd] at h9; cases h9
theorem SY.row (h : SY w bs R F qs d vs W) (hd : d 16 = false) (ha : ∀ q ∈ qs, d q.1 = true) (hq : ∀ q ∈ qs, q.1 ≠ 15) :
    SY w bs R F qs (fun j => if j = 15 then true else d j) (fun j => if j = 15 then .slice (some ⟨W.heap.size, 0, none⟩) 6 6 else vs j) (W.alloc (.cells ((qs.map fun q => vs q.1) ++ F).toArray 92)) := by
  obtain ⟨h1, h2, -⟩ := h.1 hd
  have hk : Kept [] W (W.alloc (.cells ((qs.map fun q => vs q.1) ++ F).toArray 92)) := (Kept.refl _ _).alloc _
  have em : (qs.map fun q => (if q.1 = 15 then Value.slice (some ⟨W.heap.size, 0, none⟩) 6 6 else vs q.1)) = qs.map fun q => vs q.1 := List.map_congr_left fun q hq' => by rw [if_neg (hq q hq')]
  refine ⟨fun _ => ⟨h1.step hk, fun q hq' hdq => ?_, fun _ => ⟨fun q hq' => ?_, W.heap.size, by dsimp only; rw [if_pos rfl], ?_⟩⟩, fun h9 => ?_⟩
  · dsimp only at *
    rw [if_neg (hq q hq')] at hdq ⊢
    exact (h2 q hq' hdq).mono hk
  · dsimp only at *
    rw [if_neg (hq q hq')]
    exact ha q hq'
  · dsimp only at *
    rw [em]
    exact Blk.new W 92 _
  · dsimp only at *
    rw [if_neg (by decide), hd] at h9; cases h9
end
theorem cg67 (vs : Array Value) (w : World) : (callFunc 67 vs).run Tryz.prog w = .ok (.enter 67 vs) w := by kernel_rfl
set_option maxHeartbeats 2000000 in
theorem sayW (ao : Option Addr) (o : Option Dv.Dev) (j : Job) (n : Int) (lx : Le.Le) (w : World) (h : Dq w (.pointer ao) o) (Y : List Nat) (x : Int) (P : World → Prop)
    (hT : ∀ (W : World) (p b1 b2 b3 b4 b5 : Nat) (L : List (Value × Int)), Mm [] w W [(b1, 32, [.pointer ao]), (b2, 23, jobC j), (b3, 3, [.int .i64 n]), (b4, 73, lx.C), (b5, 59, u8s (Vi.zs 64))] → L.length = 4 → L.map Prod.snd = sayQ o j n lx → (∀ q ∈ L, Ques W q.1 q.2) → Blk W p 92 (L.map Prod.fst ++ [fnV 69 #[P0 b4, P0 b5], fnV 71 #[P0 b2, P0 b3, P0 b1, P0 b4, P0 b5]]) → Calls Tryz.prog 67 #[.slice (some ⟨p, 0, none⟩) 6 6] W fun e W' => e = .returned (.int .i64 x) ∧ Kept (b5 :: Y) W W' ∧ P W') :
    Calls Tryz.prog 31 #[.pointer ao, aggV (jobC j), .int .i64 n, aggV lx.C] w fun e w' => e = .returned (.int .i64 x) ∧ Kept Y w w' ∧ P w' := by
  have HT := hide hT
  have HD := hide h
  clear hT h
  have M : Hid (Mm [] w w []) := hide Mm.init
  go_enter Tryz.func31, Tryz.ntmps31
  go_wp2_with (
    first
    | (refine wpBoxP rfl (.tmp 0) rfl ao rfl ?_
       intro W1 b1 e1 B1 K1
       replace M : Hid (Mm [] w W1 [(b1, 32, [.pointer ao])]) := hide ((unhide M).new e1 B1 K1)
       clear e1 B1 K1
       refine Stp.go ?_))
  constructor
  go_wp2_with (
    first
    | (refine wpBoxV rfl (.tmp 1) rfl (jobC j) rfl ?_
       intro W2 b2 e2 B2 K2
       replace M : Hid (Mm [] w W2 [(b1, 32, [.pointer ao]), (b2, 23, jobC j)]) := hide ((unhide M).new e2 B2 K2)
       clear e2 B2 K2
       refine Stp.go ?_))
  constructor
  go_wp2_with (
    first
    | (refine wpBoxI rfl (.tmp 2) rfl n rfl ?_
       intro W3 b3 e3 B3 K3
       replace M : Hid (Mm [] w W3 [(b1, 32, [.pointer ao]), (b2, 23, jobC j), (b3, 3, [.int .i64 n])]) := hide ((unhide M).new e3 B3 K3)
       clear e3 B3 K3
       refine Stp.go ?_))
  constructor
  go_wp2_with (
    first
    | (refine wpBoxV rfl (.tmp 3) rfl lx.C rfl ?_
       intro W4 b4 e4 B4 K4
       replace M : Hid (Mm [] w W4 [(b1, 32, [.pointer ao]), (b2, 23, jobC j), (b3, 3, [.int .i64 n]), (b4, 73, lx.C)]) := hide ((unhide M).new e4 B4 K4)
       clear e4 B4 K4
       refine Stp.go ?_))
  constructor
  go_wp2_with (
    first
    | (refine wpAllocW (u8s (Vi.zs 64)) Vi.zero28 9 rfl rfl rfl ?_
       intro W5 b5 e5 B5 K5
       replace M : Hid (Mm [] w W5 [(b1, 32, [.pointer ao]), (b2, 23, jobC j), (b3, 3, [.int .i64 n]), (b4, 73, lx.C), (b5, 59, u8s (Vi.zs 64))]) := hide ((unhide M).new e5 B5 K5)
       clear e5 B5 K5
       refine Stp.go ?_))
  constructor
  go_wp2_with fail
  have HN5 : Hid (w.heap.size ≤ b5) := mm_new (unhide M) (b5, 59, u8s (Vi.zs 64)) (by simp)
  refine wp_region_any mixed (wpAny_gx 18 rfl (by kernel_rfl) [some (.pointer ao), none, some (.pointer ao), some (aggV (jobC j)), none, some (aggV (jobC j)), some (.int .i64 n), none, some (.pointer ao), some (.int .i64 n), some (.pointer (some ⟨b4, 0, none⟩)), some (.int .i64 lx.ep), none, some (fnV 69 #[P0 b4, P0 b5]), some (fnV 71 #[P0 b2, P0 b3, P0 b1, P0 b4, P0 b5]), none, some (.int .i64 x), some (.int .i64 x)] rfl (by kernel_rfl) (fun l vs W => (SY w [(b1, 32, [.pointer ao]), (b2, 23, jobC j), (b3, 3, [.int .i64 n]), (b4, 73, lx.C), (b5, 59, u8s (Vi.zs 64))] (fun V => Kept (b5 :: Y) w V ∧ P V) [fnV 69 #[P0 b4, P0 b5], fnV 71 #[P0 b2, P0 b3, P0 b1, P0 b4, P0 b5]] [(1, qa (decide (0 < oSize o)) 1), (4, qa (fitsB o j) 2), (7, qa (nodeB j n) 2), (12, qa (epochB o n lx.ep) 2)]) (fun i => l.getD i false) vs W) (⟨fun _ => ⟨(unhide M).drew, (by simp), (fun h => by cases h)⟩, (fun h => by cases h)⟩) ?_ ?_)
  · intro ix o' hi ho a' w2 l vs hls hlf hJ hout hin hdep hnot
    match ix, ho with
    | 0, ho =>
      obtain rfl := Option.some.inj ho
      have e0 := hout 4 (by kernel_rfl)
      replace e0 : a'.eval (.tmp 4) = _ := e0.trans rfl
      obtain ⟨hM, -, -⟩ := hJ.1 (hnot 16 (by kernel_rfl))
      exact o_load32 (.tmp 4) rfl _ _ e0 (fits_cell (hM.at 0 _ rfl) 0 _ rfl) ⟨_, rfl, told_of rfl, Le.keepG (St := (SY w [(b1, 32, [.pointer ao]), (b2, 23, jobC j), (b3, 3, [.int .i64 n]), (b4, 73, lx.C), (b5, 59, u8s (Vi.zs 64))] (fun V => Kept (b5 :: Y) w V ∧ P V) [fnV 69 #[P0 b4, P0 b5], fnV 71 #[P0 b2, P0 b3, P0 b1, P0 b4, P0 b5]] [(1, qa (decide (0 < oSize o)) 1), (4, qa (fitsB o j) 2), (7, qa (nodeB j n) 2), (12, qa (epochB o n lx.ep) 2)])) [16, 15, 1, 4, 7, 12] (SY.loc (qs := [(1, qa (decide (0 < oSize o)) 1), (4, qa (fitsB o j) 2), (7, qa (nodeB j n) 2), (12, qa (epochB o n lx.ep) 2)])) (by omega) (by decide) hJ⟩
    | 1, ho =>
      obtain rfl := Option.some.inj ho
      have e0 : a'.eval (.tmp 10) = .pointer ao := by have h9 := hin 0 10 (by kernel_rfl) (by kernel_rfl); exact h9.1.trans (told_is _ h9.2 rfl)
      obtain ⟨hM, -, -⟩ := hJ.1 (hnot 16 (by kernel_rfl))
      refine wp_callF 44 _ _ rfl #[.pointer ao] (by simp [e0]) (cg44 _ _) ((there44 (.pointer ao) o w2 ((unhide HD).kept hM.kept)).mono ?_)
      rintro e w3 ⟨q, rfl, hq1, hk3⟩
      exact ⟨_, rfl, _, rfl, told_no rfl, Le.nextG (St := (SY w [(b1, 32, [.pointer ao]), (b2, 23, jobC j), (b3, 3, [.int .i64 n]), (b4, 73, lx.C), (b5, 59, u8s (Vi.zs 64))] (fun V => Kept (b5 :: Y) w V ∧ P V) [fnV 69 #[P0 b4, P0 b5], fnV 71 #[P0 b2, P0 b3, P0 b1, P0 b4, P0 b5]] [(1, qa (decide (0 < oSize o)) 1), (4, qa (fitsB o j) 2), (7, qa (nodeB j n) 2), (12, qa (epochB o n lx.ep) 2)])) (by omega) (SY.ask hJ (hnot 16 (by kernel_rfl)) (hnot 15 (by kernel_rfl)) hk3 hq1 (by decide) (by decide) (by simp))⟩
    | 2, ho =>
      obtain rfl := Option.some.inj ho
      have e0 := hout 4 (by kernel_rfl)
      replace e0 : a'.eval (.tmp 4) = _ := e0.trans rfl
      obtain ⟨hM, -, -⟩ := hJ.1 (hnot 16 (by kernel_rfl))
      exact o_load32 (.tmp 4) rfl _ _ e0 (fits_cell (hM.at 0 _ rfl) 0 _ rfl) ⟨_, rfl, told_of rfl, Le.keepG (St := (SY w [(b1, 32, [.pointer ao]), (b2, 23, jobC j), (b3, 3, [.int .i64 n]), (b4, 73, lx.C), (b5, 59, u8s (Vi.zs 64))] (fun V => Kept (b5 :: Y) w V ∧ P V) [fnV 69 #[P0 b4, P0 b5], fnV 71 #[P0 b2, P0 b3, P0 b1, P0 b4, P0 b5]] [(1, qa (decide (0 < oSize o)) 1), (4, qa (fitsB o j) 2), (7, qa (nodeB j n) 2), (12, qa (epochB o n lx.ep) 2)])) [16, 15, 1, 4, 7, 12] (SY.loc (qs := [(1, qa (decide (0 < oSize o)) 1), (4, qa (fitsB o j) 2), (7, qa (nodeB j n) 2), (12, qa (epochB o n lx.ep) 2)])) (by omega) (by decide) hJ⟩
    | 3, ho =>
      obtain rfl := Option.some.inj ho
      have e0 := hout 5 (by kernel_rfl)
      replace e0 : a'.eval (.tmp 5) = _ := e0.trans rfl
      obtain ⟨hM, -, -⟩ := hJ.1 (hnot 16 (by kernel_rfl))
      exact wp_loadA jrow (.tmp 5) rfl b2 0 e0 (jobC j) rfl (hM.at 1 _ rfl).range ⟨_, rfl, told_of rfl, Le.keepG (St := (SY w [(b1, 32, [.pointer ao]), (b2, 23, jobC j), (b3, 3, [.int .i64 n]), (b4, 73, lx.C), (b5, 59, u8s (Vi.zs 64))] (fun V => Kept (b5 :: Y) w V ∧ P V) [fnV 69 #[P0 b4, P0 b5], fnV 71 #[P0 b2, P0 b3, P0 b1, P0 b4, P0 b5]] [(1, qa (decide (0 < oSize o)) 1), (4, qa (fitsB o j) 2), (7, qa (nodeB j n) 2), (12, qa (epochB o n lx.ep) 2)])) [16, 15, 1, 4, 7, 12] (SY.loc (qs := [(1, qa (decide (0 < oSize o)) 1), (4, qa (fitsB o j) 2), (7, qa (nodeB j n) 2), (12, qa (epochB o n lx.ep) 2)])) (by omega) (by decide) hJ⟩
    | 4, ho =>
      obtain rfl := Option.some.inj ho
      have e0 : a'.eval (.tmp 12) = .pointer ao := by have h9 := hin 2 12 (by kernel_rfl) (by kernel_rfl); exact h9.1.trans (told_is _ h9.2 rfl)
      have e1 : a'.eval (.tmp 13) = aggV (jobC j) := by have h9 := hin 3 13 (by kernel_rfl) (by kernel_rfl); exact h9.1.trans (told_is _ h9.2 rfl)
      obtain ⟨hM, -, -⟩ := hJ.1 (hnot 16 (by kernel_rfl))
      refine wp_callF 45 _ _ rfl #[.pointer ao, aggV (jobC j)] (by simp [e0, e1]) (cg45 _ _) ((fits45 (.pointer ao) o j w2 ((unhide HD).kept hM.kept)).mono ?_)
      rintro e w3 ⟨q, rfl, hq1, hk3⟩
      exact ⟨_, rfl, _, rfl, told_no rfl, Le.nextG (St := (SY w [(b1, 32, [.pointer ao]), (b2, 23, jobC j), (b3, 3, [.int .i64 n]), (b4, 73, lx.C), (b5, 59, u8s (Vi.zs 64))] (fun V => Kept (b5 :: Y) w V ∧ P V) [fnV 69 #[P0 b4, P0 b5], fnV 71 #[P0 b2, P0 b3, P0 b1, P0 b4, P0 b5]] [(1, qa (decide (0 < oSize o)) 1), (4, qa (fitsB o j) 2), (7, qa (nodeB j n) 2), (12, qa (epochB o n lx.ep) 2)])) (by omega) (SY.ask hJ (hnot 16 (by kernel_rfl)) (hnot 15 (by kernel_rfl)) hk3 hq1 (by decide) (by decide) (by simp))⟩
    | 5, ho =>
      obtain rfl := Option.some.inj ho
      have e0 := hout 5 (by kernel_rfl)
      replace e0 : a'.eval (.tmp 5) = _ := e0.trans rfl
      obtain ⟨hM, -, -⟩ := hJ.1 (hnot 16 (by kernel_rfl))
      exact wp_loadA jrow (.tmp 5) rfl b2 0 e0 (jobC j) rfl (hM.at 1 _ rfl).range ⟨_, rfl, told_of rfl, Le.keepG (St := (SY w [(b1, 32, [.pointer ao]), (b2, 23, jobC j), (b3, 3, [.int .i64 n]), (b4, 73, lx.C), (b5, 59, u8s (Vi.zs 64))] (fun V => Kept (b5 :: Y) w V ∧ P V) [fnV 69 #[P0 b4, P0 b5], fnV 71 #[P0 b2, P0 b3, P0 b1, P0 b4, P0 b5]] [(1, qa (decide (0 < oSize o)) 1), (4, qa (fitsB o j) 2), (7, qa (nodeB j n) 2), (12, qa (epochB o n lx.ep) 2)])) [16, 15, 1, 4, 7, 12] (SY.loc (qs := [(1, qa (decide (0 < oSize o)) 1), (4, qa (fitsB o j) 2), (7, qa (nodeB j n) 2), (12, qa (epochB o n lx.ep) 2)])) (by omega) (by decide) hJ⟩
    | 6, ho =>
      obtain rfl := Option.some.inj ho
      have e0 := hout 6 (by kernel_rfl)
      replace e0 : a'.eval (.tmp 6) = _ := e0.trans rfl
      obtain ⟨hM, -, -⟩ := hJ.1 (hnot 16 (by kernel_rfl))
      exact Ar.o_load3 (.tmp 6) rfl _ _ e0 (fits_cell (hM.at 2 _ rfl) 0 _ rfl) ⟨_, rfl, told_of rfl, Le.keepG (St := (SY w [(b1, 32, [.pointer ao]), (b2, 23, jobC j), (b3, 3, [.int .i64 n]), (b4, 73, lx.C), (b5, 59, u8s (Vi.zs 64))] (fun V => Kept (b5 :: Y) w V ∧ P V) [fnV 69 #[P0 b4, P0 b5], fnV 71 #[P0 b2, P0 b3, P0 b1, P0 b4, P0 b5]] [(1, qa (decide (0 < oSize o)) 1), (4, qa (fitsB o j) 2), (7, qa (nodeB j n) 2), (12, qa (epochB o n lx.ep) 2)])) [16, 15, 1, 4, 7, 12] (SY.loc (qs := [(1, qa (decide (0 < oSize o)) 1), (4, qa (fitsB o j) 2), (7, qa (nodeB j n) 2), (12, qa (epochB o n lx.ep) 2)])) (by omega) (by decide) hJ⟩
    | 7, ho =>
      obtain rfl := Option.some.inj ho
      have e0 : a'.eval (.tmp 15) = aggV (jobC j) := by have h9 := hin 5 15 (by kernel_rfl) (by kernel_rfl); exact h9.1.trans (told_is _ h9.2 rfl)
      have e1 : a'.eval (.tmp 16) = .int .i64 n := by have h9 := hin 6 16 (by kernel_rfl) (by kernel_rfl); exact h9.1.trans (told_is _ h9.2 rfl)
      obtain ⟨hM, -, -⟩ := hJ.1 (hnot 16 (by kernel_rfl))
      refine wp_callF 64 _ _ rfl #[aggV (jobC j), .int .i64 n] (by simp [e0, e1]) (cg64 _ _) ((node64 j n w2).mono ?_)
      rintro e w3 ⟨q, rfl, hq1, hk3⟩
      exact ⟨_, rfl, _, rfl, told_no rfl, Le.nextG (St := (SY w [(b1, 32, [.pointer ao]), (b2, 23, jobC j), (b3, 3, [.int .i64 n]), (b4, 73, lx.C), (b5, 59, u8s (Vi.zs 64))] (fun V => Kept (b5 :: Y) w V ∧ P V) [fnV 69 #[P0 b4, P0 b5], fnV 71 #[P0 b2, P0 b3, P0 b1, P0 b4, P0 b5]] [(1, qa (decide (0 < oSize o)) 1), (4, qa (fitsB o j) 2), (7, qa (nodeB j n) 2), (12, qa (epochB o n lx.ep) 2)])) (by omega) (SY.ask hJ (hnot 16 (by kernel_rfl)) (hnot 15 (by kernel_rfl)) hk3 hq1 (by decide) (by decide) (by simp))⟩
    | 8, ho =>
      obtain rfl := Option.some.inj ho
      have e0 := hout 4 (by kernel_rfl)
      replace e0 : a'.eval (.tmp 4) = _ := e0.trans rfl
      obtain ⟨hM, -, -⟩ := hJ.1 (hnot 16 (by kernel_rfl))
      exact o_load32 (.tmp 4) rfl _ _ e0 (fits_cell (hM.at 0 _ rfl) 0 _ rfl) ⟨_, rfl, told_of rfl, Le.keepG (St := (SY w [(b1, 32, [.pointer ao]), (b2, 23, jobC j), (b3, 3, [.int .i64 n]), (b4, 73, lx.C), (b5, 59, u8s (Vi.zs 64))] (fun V => Kept (b5 :: Y) w V ∧ P V) [fnV 69 #[P0 b4, P0 b5], fnV 71 #[P0 b2, P0 b3, P0 b1, P0 b4, P0 b5]] [(1, qa (decide (0 < oSize o)) 1), (4, qa (fitsB o j) 2), (7, qa (nodeB j n) 2), (12, qa (epochB o n lx.ep) 2)])) [16, 15, 1, 4, 7, 12] (SY.loc (qs := [(1, qa (decide (0 < oSize o)) 1), (4, qa (fitsB o j) 2), (7, qa (nodeB j n) 2), (12, qa (epochB o n lx.ep) 2)])) (by omega) (by decide) hJ⟩
    | 9, ho =>
      obtain rfl := Option.some.inj ho
      have e0 := hout 6 (by kernel_rfl)
      replace e0 : a'.eval (.tmp 6) = _ := e0.trans rfl
      obtain ⟨hM, -, -⟩ := hJ.1 (hnot 16 (by kernel_rfl))
      exact Ar.o_load3 (.tmp 6) rfl _ _ e0 (fits_cell (hM.at 2 _ rfl) 0 _ rfl) ⟨_, rfl, told_of rfl, Le.keepG (St := (SY w [(b1, 32, [.pointer ao]), (b2, 23, jobC j), (b3, 3, [.int .i64 n]), (b4, 73, lx.C), (b5, 59, u8s (Vi.zs 64))] (fun V => Kept (b5 :: Y) w V ∧ P V) [fnV 69 #[P0 b4, P0 b5], fnV 71 #[P0 b2, P0 b3, P0 b1, P0 b4, P0 b5]] [(1, qa (decide (0 < oSize o)) 1), (4, qa (fitsB o j) 2), (7, qa (nodeB j n) 2), (12, qa (epochB o n lx.ep) 2)])) [16, 15, 1, 4, 7, 12] (SY.loc (qs := [(1, qa (decide (0 < oSize o)) 1), (4, qa (fitsB o j) 2), (7, qa (nodeB j n) 2), (12, qa (epochB o n lx.ep) 2)])) (by omega) (by decide) hJ⟩
    | 10, ho =>
      obtain rfl := Option.some.inj ho
      have e0 := hout 7 (by kernel_rfl)
      replace e0 : a'.eval (.tmp 7) = _ := e0.trans rfl
      exact Le.o_fld23_0 (.tmp 7) rfl b4 0 e0 ⟨_, rfl, told_of rfl, Le.keepG (St := (SY w [(b1, 32, [.pointer ao]), (b2, 23, jobC j), (b3, 3, [.int .i64 n]), (b4, 73, lx.C), (b5, 59, u8s (Vi.zs 64))] (fun V => Kept (b5 :: Y) w V ∧ P V) [fnV 69 #[P0 b4, P0 b5], fnV 71 #[P0 b2, P0 b3, P0 b1, P0 b4, P0 b5]] [(1, qa (decide (0 < oSize o)) 1), (4, qa (fitsB o j) 2), (7, qa (nodeB j n) 2), (12, qa (epochB o n lx.ep) 2)])) [16, 15, 1, 4, 7, 12] (SY.loc (qs := [(1, qa (decide (0 < oSize o)) 1), (4, qa (fitsB o j) 2), (7, qa (nodeB j n) 2), (12, qa (epochB o n lx.ep) 2)])) (by omega) (by decide) hJ⟩
    | 11, ho =>
      obtain rfl := Option.some.inj ho
      have e0 : a'.eval (.tmp 20) = .pointer (some ⟨b4, 0, none⟩) := by have h9 := hin 10 20 (by kernel_rfl) (by kernel_rfl); exact h9.1.trans (told_is _ h9.2 rfl)
      obtain ⟨hM, -, -⟩ := hJ.1 (hnot 16 (by kernel_rfl))
      exact o_load2 (.tmp 20) rfl _ _ e0 (fits_cell (hM.at 3 _ rfl) 0 _ rfl) ⟨_, rfl, told_of rfl, Le.keepG (St := (SY w [(b1, 32, [.pointer ao]), (b2, 23, jobC j), (b3, 3, [.int .i64 n]), (b4, 73, lx.C), (b5, 59, u8s (Vi.zs 64))] (fun V => Kept (b5 :: Y) w V ∧ P V) [fnV 69 #[P0 b4, P0 b5], fnV 71 #[P0 b2, P0 b3, P0 b1, P0 b4, P0 b5]] [(1, qa (decide (0 < oSize o)) 1), (4, qa (fitsB o j) 2), (7, qa (nodeB j n) 2), (12, qa (epochB o n lx.ep) 2)])) [16, 15, 1, 4, 7, 12] (SY.loc (qs := [(1, qa (decide (0 < oSize o)) 1), (4, qa (fitsB o j) 2), (7, qa (nodeB j n) 2), (12, qa (epochB o n lx.ep) 2)])) (by omega) (by decide) hJ⟩
    | 12, ho =>
      obtain rfl := Option.some.inj ho
      have e0 : a'.eval (.tmp 18) = .pointer ao := by have h9 := hin 8 18 (by kernel_rfl) (by kernel_rfl); exact h9.1.trans (told_is _ h9.2 rfl)
      have e1 : a'.eval (.tmp 19) = .int .i64 n := by have h9 := hin 9 19 (by kernel_rfl) (by kernel_rfl); exact h9.1.trans (told_is _ h9.2 rfl)
      have e2 : a'.eval (.tmp 21) = .int .i64 lx.ep := by have h9 := hin 11 21 (by kernel_rfl) (by kernel_rfl); exact h9.1.trans (told_is _ h9.2 rfl)
      obtain ⟨hM, -, -⟩ := hJ.1 (hnot 16 (by kernel_rfl))
      refine wp_callF 68 _ _ rfl #[.pointer ao, .int .i64 n, .int .i64 lx.ep] (by simp [e0, e1, e2]) (cg68 _ _) ((epoch68 (.pointer ao) o n lx.ep w2 ((unhide HD).kept hM.kept)).mono ?_)
      rintro e w3 ⟨q, rfl, hq1, hk3⟩
      exact ⟨_, rfl, _, rfl, told_no rfl, Le.nextG (St := (SY w [(b1, 32, [.pointer ao]), (b2, 23, jobC j), (b3, 3, [.int .i64 n]), (b4, 73, lx.C), (b5, 59, u8s (Vi.zs 64))] (fun V => Kept (b5 :: Y) w V ∧ P V) [fnV 69 #[P0 b4, P0 b5], fnV 71 #[P0 b2, P0 b3, P0 b1, P0 b4, P0 b5]] [(1, qa (decide (0 < oSize o)) 1), (4, qa (fitsB o j) 2), (7, qa (nodeB j n) 2), (12, qa (epochB o n lx.ep) 2)])) (by omega) (SY.ask hJ (hnot 16 (by kernel_rfl)) (hnot 15 (by kernel_rfl)) hk3 hq1 (by decide) (by decide) (by simp))⟩
    | 13, ho =>
      obtain rfl := Option.some.inj ho
      have e0 := hout 7 (by kernel_rfl)
      replace e0 : a'.eval (.tmp 7) = _ := e0.trans rfl
      have e1 := hout 9 (by kernel_rfl)
      replace e1 : a'.eval (.tmp 9) = _ := e1.trans rfl
      have f0 : a'.eval (.tmp 7) = P0 b4 := e0
      have f1 : a'.eval (.tmp 9) = P0 b5 := e1
      exact o_mkf 69 _ rfl #[P0 b4, P0 b5] (by simp [f0, f1]) ⟨_, rfl, told_of rfl, Le.keepG (St := (SY w [(b1, 32, [.pointer ao]), (b2, 23, jobC j), (b3, 3, [.int .i64 n]), (b4, 73, lx.C), (b5, 59, u8s (Vi.zs 64))] (fun V => Kept (b5 :: Y) w V ∧ P V) [fnV 69 #[P0 b4, P0 b5], fnV 71 #[P0 b2, P0 b3, P0 b1, P0 b4, P0 b5]] [(1, qa (decide (0 < oSize o)) 1), (4, qa (fitsB o j) 2), (7, qa (nodeB j n) 2), (12, qa (epochB o n lx.ep) 2)])) [16, 15, 1, 4, 7, 12] (SY.loc (qs := [(1, qa (decide (0 < oSize o)) 1), (4, qa (fitsB o j) 2), (7, qa (nodeB j n) 2), (12, qa (epochB o n lx.ep) 2)])) (by omega) (by decide) hJ⟩
    | 14, ho =>
      obtain rfl := Option.some.inj ho
      have e0 := hout 5 (by kernel_rfl)
      replace e0 : a'.eval (.tmp 5) = _ := e0.trans rfl
      have e1 := hout 6 (by kernel_rfl)
      replace e1 : a'.eval (.tmp 6) = _ := e1.trans rfl
      have e2 := hout 4 (by kernel_rfl)
      replace e2 : a'.eval (.tmp 4) = _ := e2.trans rfl
      have e3 := hout 7 (by kernel_rfl)
      replace e3 : a'.eval (.tmp 7) = _ := e3.trans rfl
      have e4 := hout 9 (by kernel_rfl)
      replace e4 : a'.eval (.tmp 9) = _ := e4.trans rfl
      have f0 : a'.eval (.tmp 5) = P0 b2 := e0
      have f1 : a'.eval (.tmp 6) = P0 b3 := e1
      have f2 : a'.eval (.tmp 4) = P0 b1 := e2
      have f3 : a'.eval (.tmp 7) = P0 b4 := e3
      have f4 : a'.eval (.tmp 9) = P0 b5 := e4
      exact o_mkf 71 _ rfl #[P0 b2, P0 b3, P0 b1, P0 b4, P0 b5] (by simp [f0, f1, f2, f3, f4]) ⟨_, rfl, told_of rfl, Le.keepG (St := (SY w [(b1, 32, [.pointer ao]), (b2, 23, jobC j), (b3, 3, [.int .i64 n]), (b4, 73, lx.C), (b5, 59, u8s (Vi.zs 64))] (fun V => Kept (b5 :: Y) w V ∧ P V) [fnV 69 #[P0 b4, P0 b5], fnV 71 #[P0 b2, P0 b3, P0 b1, P0 b4, P0 b5]] [(1, qa (decide (0 < oSize o)) 1), (4, qa (fitsB o j) 2), (7, qa (nodeB j n) 2), (12, qa (epochB o n lx.ep) 2)])) [16, 15, 1, 4, 7, 12] (SY.loc (qs := [(1, qa (decide (0 < oSize o)) 1), (4, qa (fitsB o j) 2), (7, qa (nodeB j n) 2), (12, qa (epochB o n lx.ep) 2)])) (by omega) (by decide) hJ⟩
    | 15, ho =>
      obtain rfl := Option.some.inj ho
      have e0 : a'.eval (.tmp 11) = vs 1 := (hin 1 11 (by kernel_rfl) (by kernel_rfl)).1
      have e1 : a'.eval (.tmp 14) = vs 4 := (hin 4 14 (by kernel_rfl) (by kernel_rfl)).1
      have e2 : a'.eval (.tmp 17) = vs 7 := (hin 7 17 (by kernel_rfl) (by kernel_rfl)).1
      have e3 : a'.eval (.tmp 22) = vs 12 := (hin 12 22 (by kernel_rfl) (by kernel_rfl)).1
      have e4 : a'.eval (.tmp 23) = fnV 69 #[P0 b4, P0 b5] := by have h9 := hin 13 23 (by kernel_rfl) (by kernel_rfl); exact h9.1.trans (told_is _ h9.2 rfl)
      have e5 : a'.eval (.tmp 24) = fnV 71 #[P0 b2, P0 b3, P0 b1, P0 b4, P0 b5] := by have h9 := hin 14 24 (by kernel_rfl) (by kernel_rfl); exact h9.1.trans (told_is _ h9.2 rfl)
      have hQ := (hJ.1 (hnot 16 (by kernel_rfl))).2.1
      have h1 := hdep 1 (by kernel_rfl)
      have h2 := hdep 4 (by kernel_rfl)
      have h3 := hdep 7 (by kernel_rfl)
      have h4 := hdep 12 (by kernel_rfl)
      exact o_bs6 (.tmp 11) (.tmp 14) (.tmp 17) (.tmp 22) (.tmp 23) (.tmp 24) rfl _ _ _ _ 69 71 _ _ e0 e1 e2 e3 e4 e5 (hQ (1, qa (decide (0 < oSize o)) 1) (by simp) h1) (hQ (4, qa (fitsB o j) 2) (by simp) h2) (hQ (7, qa (nodeB j n) 2) (by simp) h3) (hQ (12, qa (epochB o n lx.ep) 2) (by simp) h4) ⟨_, rfl, told_no rfl, Le.nextG (St := (SY w [(b1, 32, [.pointer ao]), (b2, 23, jobC j), (b3, 3, [.int .i64 n]), (b4, 73, lx.C), (b5, 59, u8s (Vi.zs 64))] (fun V => Kept (b5 :: Y) w V ∧ P V) [fnV 69 #[P0 b4, P0 b5], fnV 71 #[P0 b2, P0 b3, P0 b1, P0 b4, P0 b5]] [(1, qa (decide (0 < oSize o)) 1), (4, qa (fitsB o j) 2), (7, qa (nodeB j n) 2), (12, qa (epochB o n lx.ep) 2)])) (by omega) (SY.row hJ (hnot 16 (by kernel_rfl)) (by intro q hq; simp at hq; rcases hq with rfl | rfl | rfl | rfl; exact h1; exact h2; exact h3; exact h4) (by simp))⟩
    | 16, ho =>
      obtain rfl := Option.some.inj ho
      have e0 : a'.eval (.tmp 25) = vs 15 := (hin 15 25 (by kernel_rfl) (by kernel_rfl)).1
      obtain ⟨hM, hQ, hr⟩ := hJ.1 hlf
      obtain ⟨ha, p, hp, hb⟩ := hr (hdep 15 (by kernel_rfl))
      refine wp_callF 67 _ _ rfl #[.slice (some ⟨p, 0, none⟩) 6 6] (by simp only [List.map_toArray, List.map_cons, List.map_nil, e0]; rw [hp]) (cg67 _ _) ((unhide HT w2 p b1 b2 b3 b4 b5 [(vs 1, qa (decide (0 < oSize o)) 1), (vs 4, qa (fitsB o j) 2), (vs 7, qa (nodeB j n) 2), (vs 12, qa (epochB o n lx.ep) 2)] hM rfl rfl (by intro q hq; simp at hq; rcases hq with rfl | rfl | rfl | rfl; exact hQ (1, qa (decide (0 < oSize o)) 1) (by simp) (ha (1, _) (by simp)); exact hQ (4, qa (fitsB o j) 2) (by simp) (ha (4, _) (by simp)); exact hQ (7, qa (nodeB j n) 2) (by simp) (ha (7, _) (by simp)); exact hQ (12, qa (epochB o n lx.ep) 2) (by simp) (ha (12, _) (by simp))) hb).mono ?_)
      rintro e w3 ⟨rfl, kd, hpp⟩
      exact ⟨_, rfl, _, rfl, told_of rfl, Le.nextG (St := (SY w [(b1, 32, [.pointer ao]), (b2, 23, jobC j), (b3, 3, [.int .i64 n]), (b4, 73, lx.C), (b5, 59, u8s (Vi.zs 64))] (fun V => Kept (b5 :: Y) w V ∧ P V) [fnV 69 #[P0 b4, P0 b5], fnV 71 #[P0 b2, P0 b3, P0 b1, P0 b4, P0 b5]] [(1, qa (decide (0 < oSize o)) 1), (4, qa (fitsB o j) 2), (7, qa (nodeB j n) 2), (12, qa (epochB o n lx.ep) 2)])) (by omega) ⟨(fun h => by cases h), fun _ => ⟨(hM.kept.mono (by simp)).trans kd, hpp⟩⟩⟩
    | 17, ho =>
      obtain rfl := Option.some.inj ho
      have e0 : a'.eval (.tmp 26) = .int .i64 x := by have h9 := hin 16 26 (by kernel_rfl) (by kernel_rfl); exact h9.1.trans (told_is _ h9.2 rfl)
      exact wp_assignV (.tmp 26) rfl _ e0 ⟨_, rfl, told_of rfl, Le.keepG (St := (SY w [(b1, 32, [.pointer ao]), (b2, 23, jobC j), (b3, 3, [.int .i64 n]), (b4, 73, lx.C), (b5, 59, u8s (Vi.zs 64))] (fun V => Kept (b5 :: Y) w V ∧ P V) [fnV 69 #[P0 b4, P0 b5], fnV 71 #[P0 b2, P0 b3, P0 b1, P0 b4, P0 b5]] [(1, qa (decide (0 < oSize o)) 1), (4, qa (fitsB o j) 2), (7, qa (nodeB j n) 2), (12, qa (epochB o n lx.ep) 2)])) [16, 15, 1, 4, 7, 12] (SY.loc (qs := [(1, qa (decide (0 < oSize o)) 1), (4, qa (fitsB o j) 2), (7, qa (nodeB j n) 2), (12, qa (epochB o n lx.ep) 2)])) (by omega) (by decide) hJ⟩
  intro l_ vs4 V4 hl hJ htold
  have t0 : vs4 0 = .pointer ao := told_is _ (htold 0 (by decide)) rfl
  have t2 : vs4 2 = .pointer ao := told_is _ (htold 2 (by decide)) rfl
  have t3 : vs4 3 = aggV (jobC j) := told_is _ (htold 3 (by decide)) rfl
  have t5 : vs4 5 = aggV (jobC j) := told_is _ (htold 5 (by decide)) rfl
  have t6 : vs4 6 = .int .i64 n := told_is _ (htold 6 (by decide)) rfl
  have t8 : vs4 8 = .pointer ao := told_is _ (htold 8 (by decide)) rfl
  have t9 : vs4 9 = .int .i64 n := told_is _ (htold 9 (by decide)) rfl
  have t10 : vs4 10 = .pointer (some ⟨b4, 0, none⟩) := told_is _ (htold 10 (by decide)) rfl
  have t11 : vs4 11 = .int .i64 lx.ep := told_is _ (htold 11 (by decide)) rfl
  have t13 : vs4 13 = fnV 69 #[P0 b4, P0 b5] := told_is _ (htold 13 (by decide)) rfl
  have t14 : vs4 14 = fnV 71 #[P0 b2, P0 b3, P0 b1, P0 b4, P0 b5] := told_is _ (htold 14 (by decide)) rfl
  have t16 : vs4 16 = .int .i64 x := told_is _ (htold 16 (by decide)) rfl
  have t17 : vs4 17 = .int .i64 x := told_is _ (htold 17 (by decide)) rfl
  rw [show (List.range 18).map vs4 = [vs4 0, vs4 1, vs4 2, vs4 3, vs4 4, vs4 5, vs4 6, vs4 7, vs4 8, vs4 9, vs4 10, vs4 11, vs4 12, vs4 13, vs4 14, vs4 15, vs4 16, vs4 17] from rfl]
  simp only [t0, t2, t3, t5, t6, t8, t9, t10, t11, t13, t14, t16, t17, putAll, Act.put, List.setIfInBounds_toArray, List.set_cons_succ, List.set_cons_zero]
  clear t0 t2 t3 t5 t6 t8 t9 t10 t11 t13 t14 t16 t17 htold
  obtain ⟨hk, hp⟩ := hJ.2 (hl 16 (by decide))
  have HKE := hide hk
  have HPE := hide hp
  generalize vs4 1 = u1
  generalize vs4 4 = u4
  generalize vs4 7 = u7
  generalize vs4 12 = u12
  generalize vs4 15 = u15
  clear hJ hl hk hp M
  go_wp2_with fail
  go_ret
  refine ⟨rfl, (Kept.refl _ _).fresh (unhide HKE) (fun i hi hl => ?_), unhide HPE⟩
  rcases List.mem_cons.1 hi with rfl | hi
  · have := unhide HN5
    omega
  · exact hi
theorem say31 (b g : Nat) (D : Dv.Dev) (j : Job) (n : Int) (lx : Le.Le) (w : World) (h : Dv.Dv w b g D) :
    Calls Tryz.prog 31 #[P0 b, aggV (jobC j), .int .i64 n, aggV lx.C] w fun e w' => e = .returned (.int .i64 (msay D j n lx).1) ∧ Kept [b, g] w w' ∧ Dv.Dv w' b g (msay D j n lx).2 := by
  refine sayW (some ⟨b, 0, none⟩) (some D) j n lx w ⟨b, g, rfl, h⟩ [b, g] (msay D j n lx).1 (fun V => Dv.Dv V b g (msay D j n lx).2) ?_
  intro W p b1 b2 b3 b4 b5 L hM hL hs hq hB
  have hk := hM.kept
  have hd := h.kept hk (by simp) (by simp)
  refine (told31 p b1 b2 b3 b4 b5 b g D j n lx L W hL hs hq (Rg.of hB) ⟨_, hB⟩ (hM.at 0 _ rfl) (hM.at 1 _ rfl) (hM.at 2 _ rfl) (hM.at 3 _ rfl) (hM.at 4 _ rfl) hd ?_).mono ?_
  · have h1 := mm_new hM (b5, 59, u8s (Vi.zs 64)) (by simp)
    have h2 := h.lt
    simp only at h1
    simp; omega
  · rintro e W' ⟨y, rfl, kd, hd', rfl⟩
    exact ⟨rfl, kd, hd'⟩
theorem say_nil (j : Job) (n : Int) (lx : Le.Le) (w : World) :
    Calls Tryz.prog 31 #[.pointer none, aggV (jobC j), .int .i64 n, aggV lx.C] w fun e w' => e = .returned (.int .i64 1) ∧ Kept [] w w' := by
  refine (sayW none none j n lx w rfl [] 1 (fun _ => True) ?_).mono ?_
  · intro W p b1 b2 b3 b4 b5 L hM hL hs hq hB
    refine (told31_nil p L [(69, #[P0 b4, P0 b5]), (71, #[P0 b2, P0 b3, P0 b1, P0 b4, P0 b5])] W hL rfl 1 (by decide) (by rw [hs]; rfl) hq (Rg.of hB)).mono ?_
    rintro e W' ⟨y, rfl, hk, rfl⟩
    exact ⟨rfl, hk.mono (by simp), trivial⟩
  · rintro e w' ⟨rfl, hk, -⟩
    exact ⟨rfl, hk⟩

end Go.Proofs.YtcfflbafclmheaaGreatDoor

/-
  isReady; a region that draws its order within a round.
-/
namespace Go.Proofs.YtcfflbafclmheaaGreatDoor
set_option maxRecDepth 100000
set_option linter.unusedSimpArgs false
open Go.Shelf
open Go.RowKit
open Le (Mm wpStoreM wpStoreM1)


/-- Is a node ready, with this epoch, for this number? -/
def mready (o : Option Dv.Dev) (j : Job) (n ep nu : Int) : Bool := decide ((mlease o j n).2 = 0) && (decide ((mlease o j n).1.ep = ep) && decide (nu ≤ (mlease o j n).1.re))
set_option maxHeartbeats 2000000 in
theorem isReady95 (p : Value) (o : Option Dv.Dev) (j : Job) (n ep nu : Int) (w : World) (h : Dq w p o) : Calls Tryz.prog 95 #[p, aggV (jobC j), .int .i64 n, .int .i64 ep, .int .i64 nu] w fun e w' => e = .returned (.bool (mready o j n ep nu)) ∧ Kept [] w w' := by
  obtain ⟨ao, rfl⟩ := h.ptr
  have PL : ∀ W, Kept [] w W → Hid (Calls Tryz.prog 30 #[.pointer ao, aggV (jobC j), .int .i64 n] W fun e w' => e = .returned (.tuple #[aggV (mlease o j n).1.C, .int .i64 (mlease o j n).2]) ∧ Kept [] W w') := fun W hW => hide (lease30 (.pointer ao) o j n W (h.kept hW))
  unfold mready
  obtain ⟨⟨⟨lp, lb, lr⟩, c⟩, hl⟩ : ∃ r, mlease o j n = r := ⟨_, rfl⟩
  rw [hl] at PL ⊢
  simp only at PL ⊢
  clear h hl
  have M : Hid (Mm [] w w []) := hide Mm.init
  go_enter Tryz.func95, Tryz.ntmps95
  go_wp2_with (
    first
    | (refine wpBoxV rfl (.tmp 1) rfl (jobC j) rfl ?_
       intro W1 b1 e1 B1 K1
       replace M : Hid (Mm [] w W1 [(b1, 23, jobC j)]) := hide ((unhide M).new e1 B1 K1)
       clear e1 B1 K1
       refine Stp.go ?_))
  constructor
  go_wp2_with (
    first
    | (refine wpLoadA jrow rfl (.tmp 6) rfl b1 0 rfl (jobC j) rfl ((unhide M).at 0 _ rfl).range ?_
       refine Stp.go ?_))
  constructor
  go_wp2_with (
    first
    | (go_at_call 30
       refine (unhide (PL _ (unhide M).kept)).mono ?_
       rintro e W2 ⟨rfl, K2⟩
       replace M : Hid (Mm [] w W2 [(b1, 23, jobC j)]) := hide ((unhide M).step K2)
       clear K2
       refine Stp.go ?_))
  constructor
  go_wp2_with (
    first
    | (refine wpNew Le.row23 (Le.le0.C) rfl Le.zero23 11 rfl rfl rfl (.tmp 18) rfl rfl rfl (Le.Le.C ⟨lp, lb, lr⟩) rfl (Le.leC_one _) (by kernel_rfl) (by kernel_rfl) ?_
       intro W3 b3 e3 B3 K3
       replace M : Hid (Mm [] w W3 [(b1, 23, jobC j), (b3, 73, Le.Le.C ⟨lp, lb, lr⟩)]) := hide ((unhide M).new e3 B3 K3)
       clear e3 B3 K3
       have q0 : W3.cell? ⟨b3, 0, none⟩ = some (.int .i64 lp) := fits_cell ((unhide M).at 1 _ rfl) 0 _ rfl
       have q2 : W3.cell? ⟨b3, 2, none⟩ = some (.int .i64 lr) := fits_cell ((unhide M).at 1 _ rfl) 2 _ rfl
       refine Stp.go ?_))
  constructor
  by_cases h0 : c = 0
  · have d0 : (c == 0) = true := by simpa using h0
    by_cases h1 : lp = ep
    · have d1 : (lp == ep) = true := by simpa using h1
      have H0 := hide h0
      have H1 := hide h1
      clear h0 h1
      go_wp2_with fail
      go_ret
      exact ⟨ret_bool (by simp [unhide H0, unhide H1]), (unhide M).kept⟩
    · have d1 : (lp == ep) = false := by simpa using h1
      have H0 := hide h0
      clear h0
      go_wp2_with fail
      go_ret
      exact ⟨ret_bool (by simp [h1]), (unhide M).kept⟩
  · have d0 : (c == 0) = false := by simpa using h0
    go_wp2_with fail
    go_ret
    exact ⟨ret_bool (by simp [h0]), (unhide M).kept⟩
theorem wpAnyIn_inv {F : Fence} {n : Nat} {P : Program} {ops : Array Oper} {Q : Exit → Act → World → Prop} (I : Array Bool → Act → World → Prop) (hs : ∀ l a w, I l a w → ∀ j ∈ Region.ready .any ops l, wpOpIn F n P ops Q j (I (l.setIfInBounds j true)) a w)
    (he : ∀ l a w, I l a w → Region.ready .any ops l = [] → Q .normal a w) : ∀ (fuel : Nat) (l : Array Bool) (a : Act) (w : World), I l a w → (l.toList.filter (fun b => !b)).length ≤ fuel → wpAnyIn F n P .any ops Q fuel l a w := by
  intro fuel
  induction fuel with
  | zero =>
    intro l a w hI hf
    have hr : Region.ready .any ops l = [] := by
      apply List.eq_nil_iff_forall_not_mem.2
      intro j hj
      have := unlisted_set (mem_ready.1 hj).1
      omega
    exact ⟨hr, he l a w hI hr⟩
  | succ fuel ih =>
    intro l a w hI hf
    refine ⟨he l a w hI, fun i hi => wpOpIn_mono (fun a w h => ih _ a w h ?_) (hs l a w hI i hi)⟩
    have := unlisted_set (mem_ready.1 hi).1
    omega
theorem wpAnyIn_gx {F : Fence} {m : Nat} {ops : Array Oper} {Q : Exit → Act → World → Prop} {a0 : Act} {w0 : World} (n : Nat) (hn : ops.size = n) (hok : okX ops = true) (us : List (Option Value)) (hu : us.length = n)
    (hsl : ops.all (fun o => match o.dst with | none => true | some t => decide (t < a0.tmps.size)) = true) (J : Array Bool → (Nat → Value) → World → Prop) (hJ0 : J (Array.replicate n false) (fun _ => undef) w0)
    (hop : ∀ (j : Nat) (o : Oper), j < n → ops[j]? = some o → ∀ a w l vs, l.size = n → l.getD j false = false → J l vs w → (∀ t : Nat, ops.toList.all (fun p => p.dst != some t || p.after.any (fun e => Region.binds .any e && e.on == j)) = true → a.eval (.tmp t) = a0.eval (.tmp t)) →
      (∀ (i t : Nat), o.after.any (fun e => Region.binds .any e && e.on == i) = true → ops[i]?.bind (·.dst) = some t → a.eval (.tmp t) = vs i ∧ told us i (vs i)) → (∀ i : Nat, o.after.any (fun e => Region.binds .any e && e.on == i) = true → l.getD i false = true) → (∀ (i : Nat), (match ops[i]? with | none => false | some p => reaches ops j 8 p) = true → l.getD i false = false) →
      o.wpIn F m Tryz.prog a w (fun a' w' => ∃ v, a' = a.put o.dst v ∧ told us j v ∧ J (l.setIfInBounds j true) (fun i => if i = j then v else vs i) w') Q)
    (hQ : ∀ l vs w, (∀ j, j < n → l.getD j false = true) → J l vs w → (∀ j, j < n → told us j (vs j)) → Q .normal (putAll a0 ops.toList ((List.range n).map vs)) w) :
    wpAnyIn F m Tryz.prog .any ops Q n (Array.replicate n false) a0 w0 := by
  subst hn
  have K := okX_spec hok
  have hsl' : ∀ o ∈ ops, ∀ t, o.dst = some t → t < a0.tmps.size := by
    intro o ho t ht
    have := (Array.all_eq_true_iff_forall_mem.1 hsl) o ho
    rw [ht] at this
    simpa using this
  let I : Array Bool → Act → World → Prop := fun l a w => l.size = ops.size ∧ a.defers = a0.defers ∧ a.tmps.size = a0.tmps.size ∧ (∀ t, (∀ (i : Nat) (p : Oper), ops[i]? = some p → p.dst = some t → l.getD i false = false) → a.tmps[t]? = a0.tmps[t]?) ∧ (∀ (i : Nat) (p : Oper), ops[i]? = some p → l.getD i false = true → ∀ e ∈ p.after, Region.binds .any e = true → l.getD e.on false = true) ∧
    ∃ vs : Nat → Value, (∀ (j : Nat) (o : Oper) (t : Nat), ops[j]? = some o → o.dst = some t → l.getD j false = true → a.tmps[t]? = some (vs j)) ∧ (∀ j : Nat, l.getD j false = true → told us j (vs j)) ∧ J l vs w
  have hrep : ∀ j, (Array.replicate ops.size false).getD j false = false := by
    intro j
    rw [Array.getD_eq_getD_getElem?, Array.getElem?_replicate]
    split <;> rfl
  refine wpAnyIn_inv I ?_ ?_ ops.size _ a0 w0 ⟨by simp, rfl, rfl, fun _ _ => rfl, (fun i p _ hl => by rw [hrep] at hl; cases hl), fun _ => undef, (fun j o t ho ht hl => by rw [hrep] at hl; cases hl), (fun j hl => by rw [hrep] at hl; cases hl), hJ0⟩ (by simp)
  · rintro l a w ⟨i1, i2, i3, i4, i8, vs, i5, i7, i6⟩ j hj
    obtain ⟨hjl, o, ho, hdeps⟩ := mem_ready.1 hj
    have hjs : j < ops.size := (Array.getElem?_eq_some_iff.1 ho).1
    have hjf : l.getD j false = false := by
      simp only [Array.getD_eq_getD_getElem?] at hjl ⊢
      rw [Array.getElem?_eq_getElem (by omega)] at hjl ⊢
      simpa using hjl
    have hdep : ∀ i : Nat, o.after.any (fun e => Region.binds .any e && e.on == i) = true → l.getD i false = true := by
      intro i hi
      obtain ⟨k, hk, hb⟩ := Array.any_eq_true.1 hi
      have he := Array.getElem_mem hk
      obtain ⟨e, hee⟩ : ∃ e, o.after[k] = e := ⟨_, rfl⟩
      rw [hee] at hb he
      simp only [Bool.and_eq_true, beq_iff_eq] at hb
      have := hdeps e he hb.1
      rwa [hb.2] at this
    have hin : ∀ (i s : Nat), o.after.any (fun e => Region.binds .any e && e.on == i) = true → ops[i]?.bind (·.dst) = some s → a.eval (.tmp s) = vs i ∧ told us i (vs i) := by
      intro i s hi hs
      cases hq : ops[i]? with
      | none => rw [hq] at hs; cases hs
      | some p =>
        rw [hq] at hs
        have hv := i5 i p s hq hs (hdep i hi)
        exact ⟨by simp [Act.eval, Array.getD_eq_getD_getElem?, hv], i7 i (hdep i hi)⟩
    have next : ∀ v w', told us j v → J (l.setIfInBounds j true) (fun i => if i = j then v else vs i) w' → I (l.setIfInBounds j true) (a.put o.dst v) w' := by
      intro v w' hv hJ
      refine ⟨by simp [i1], by rw [put_defers]; exact i2, by rw [put_size]; exact i3, ?_, ?_, _, ?_, ?_, hJ⟩
      · intro s hs
        have hns : o.dst ≠ some s := by
          intro e
          have := hs j o ho e
          rw [getD_setD (by omega), if_pos rfl] at this
          cases this
        rw [put_other _ _ _ _ hns]
        refine i4 s fun i p hp hd => ?_
        have := hs i p hp hd
        rw [getD_setD (by omega)] at this
        split at this
        · cases this
        · exact this
      · intro i p hp hl e he hb
        rw [getD_setD (by omega)] at hl ⊢
        by_cases hij : i = j
        · subst hij
          rw [ho] at hp; cases hp
          rw [hdeps e he hb]
          split <;> rfl
        · rw [if_neg hij] at hl
          rw [i8 i p hp hl e he hb]
          split <;> rfl
      · intro i p s hp hs hl
        rw [getD_setD (by omega)] at hl
        by_cases hij : i = j
        · subst hij
          rw [ho] at hp; cases hp
          simp only [if_true]
          rw [hs]
          exact put_same _ _ _ (by rw [i3]; exact hsl' o (Array.mem_of_getElem? ho) s hs)
        · rw [if_neg hij] at hl
          simp only [if_neg hij]
          rw [put_other _ _ _ _ (by
            rcases Nat.lt_or_gt_of_ne hij with h | h
            · exact K.apart i j p o s h hp ho hs
            · exact fun e => K.apart j i o p s h ho hp e hs)]
          exact i5 i p s hp hs hl
      · intro i hl
        rw [getD_setD (by omega)] at hl
        by_cases hij : i = j
        · subst hij
          simp only [if_true]
          exact hv
        · rw [if_neg hij] at hl
          simp only [if_neg hij]
          exact i7 i hl
    unfold wpOpIn
    rw [ho]
    simp only
    have hout : ∀ s : Nat, ops.toList.all (fun p => p.dst != some s || p.after.any (fun e => Region.binds .any e && e.on == j)) = true → a.eval (.tmp s) = a0.eval (.tmp s) := by
      intro s hs
      have := i4 s (fun i p hp e => by
        have h1 := (List.all_eq_true.1 hs) p (by simpa using Array.mem_of_getElem? hp)
        rw [e] at h1
        simp only [bne_self_eq_false, Bool.false_or] at h1
        obtain ⟨q, hq, hb⟩ := Array.any_eq_true.1 h1
        simp only [Bool.and_eq_true, beq_iff_eq] at hb
        cases hli : l.getD i false with
        | false => rfl
        | true =>
          have := i8 i p hp hli _ (Array.getElem_mem hq) hb.1
          rw [hb.2, hjf] at this
          cases this)
      simp [Act.eval, Array.getD_eq_getD_getElem?, this]
    have hnot : ∀ (i : Nat), (match ops[i]? with | none => false | some p => reaches ops j 8 p) = true → l.getD i false = false := by
      intro i hi
      cases hp : ops[i]? with
      | none => rw [hp] at hi; cases hi
      | some p =>
        rw [hp] at hi
        cases hli : l.getD i false with
        | false => rfl
        | true =>
          have := reach_listed i8 8 p (i8 i p hp hli) hi
          rw [hjf] at this
          cases this
    rw [if_pos (by simp [Region.wanted, K.guard j o ho])]
    exact (Oper.wpIn_mono (fun a' w' ⟨v, e, hv, hJ⟩ => by rw [e]; exact next v w' hv hJ) (hop j o hjs ho a w l vs i1 hjf i6 hout hin hdep hnot))
  · rintro l a w ⟨i1, i2, i3, i4, i8, vs, i5, i7, i6⟩ hr
    have hall : ∀ n j, j < n → j < ops.size → l.getD j false = true := by
      intro n
      induction n with
      | zero => intro j hj; omega
      | succ n ih =>
        intro j hj hjs
        cases hlj : l.getD j false with
        | true => rfl
        | false =>
          exfalso
          have hmem : j ∈ Region.ready .any ops l := by
            rw [mem_ready]
            refine ⟨?_, ops[j], Array.getElem?_eq_getElem hjs, fun e he hb => ?_⟩
            · simp only [Array.getD_eq_getD_getElem?] at hlj ⊢
              rw [Array.getElem?_eq_getElem (by omega)] at hlj ⊢
              simpa using hlj
            · have := K.back j ops[j] (Array.getElem?_eq_getElem hjs) e he hb
              exact ih e.on (by omega) (by omega)
          rw [hr] at hmem
          cases hmem
    have hl := fun j (hj : j < ops.size) => hall (j + 1) j (by omega) hj
    have ha : a = putAll a0 ops.toList ((List.range ops.size).map vs) := by
      have hs := putAll_size ops.toList ((List.range ops.size).map vs) a0
      have hdst : ∀ (i j : Nat) (p q : Oper) (t : Nat), ops.toList[i]? = some p → ops.toList[j]? = some q → i ≠ j → p.dst = some t → q.dst ≠ some t := by
        intro i j p q t hp hq hij
        rw [Array.getElem?_toList] at hp hq
        rcases Nat.lt_or_gt_of_ne hij with h | h
        · exact K.apart i j p q t h hp hq
        · exact fun e1 e2 => K.apart j i q p t h hq hp e2 e1
      have ht : a.tmps = (putAll a0 ops.toList ((List.range ops.size).map vs)).tmps := by
        apply Array.ext_getElem?
        intro t
        by_cases hx : ∃ (j : Nat) (o : Oper), ops[j]? = some o ∧ o.dst = some t
        · obtain ⟨j, o, ho, hd⟩ := hx
          have hjs : j < ops.size := (Array.getElem?_eq_some_iff.1 ho).1
          have hv := i5 j o t ho hd (hl j hjs)
          have hvv : ((List.range ops.size).map vs)[j]? = some (vs j) := by simp [hjs]
          rw [hv, putAll_sameW ops.toList ((List.range ops.size).map vs) a0 j o (vs j) t (by rw [Array.getElem?_toList]; exact ho) hvv hd (hsl' o (Array.mem_of_getElem? ho) t hd) hdst]
        · have hno : ∀ p ∈ ops.toList, p.dst ≠ some t := by
            intro p hp e
            obtain ⟨j, hj⟩ := List.mem_iff_getElem?.1 hp
            exact hx ⟨j, p, by rw [← Array.getElem?_toList]; exact hj, e⟩
          rw [i4 t (fun i p hp e => absurd e (hno p (by simpa using Array.mem_of_getElem? hp))), putAll_other ops.toList ((List.range ops.size).map vs) a0 t hno]
      cases a
      simp only at ht i2
      cases hp : putAll a0 ops.toList ((List.range ops.size).map vs) with
      | mk tm df =>
        rw [hp] at ht hs
        simp only at ht hs
        rw [ht, i2, hs.2]
    rw [ha]
    exact hQ l vs w hl i6 fun j hj => i7 j (hl j hj)


theorem o_yield {l lp m k : Nat} {o : Oper} {a : Act} {w : World} {K : Act → World → Prop} {Q : Exit → Act → World → Prop} (t : Nat) (args : Array Operand) (ts : Array TypeId) (ho : o.op = .call { callee := .value (.tmp t), args := args, argTypes := ts }) (hf : a.eval (.tmp t) = .func (.yield lp) #[] #[]) (vs : Array Value) (hv : args.map a.eval = vs)
    {R : Ending → World → Prop} (hy : YieldAt Fence.wide m Tryz.prog lp vs w R) (hK : ∀ e w', R e w' → ∃ v, e = .returned v ∧ K (a.put o.dst v) w') : o.wpIn (Fence.wide.inRound l) k Tryz.prog a w K Q := by
  obtain ⟨fn, tmps, assign, body, hr, hR⟩ := hy
  subst hv
  refine ⟨fun f _ => trivial, ?_⟩
  rw [Fence.inRound_round, Oper.semAt_some l _ o (fun c e => by rw [ho] at e; cases e)]
  unfold execOp
  simp only [ho, resolve, hf]
  simp [invoke, go_sem, hr]
  refine ⟨?_, hR.1, fun c cs _ => ?_⟩
  · intro h; simp [Fence.wide] at h
  · obtain ⟨e, w', hre, hs⟩ := hR.2 c cs (room_wide _)
    obtain ⟨v, rfl, hk⟩ := hK e w' hre
    exact ⟨.returned v, w', hk, hs⟩

end Go.Proofs.YtcfflbafclmheaaGreatDoor

/-
  Ready: the members gone over, each with whether it is ready.
-/
namespace Go.Proofs.YtcfflbafclmheaaGreatDoor
set_option maxRecDepth 100000
set_option linter.unusedSimpArgs false
open Go.RowKit
open Le (Mm wpStoreM wpStoreM1)


/-- What Ready goes over. -/
def rl (o : Option Dv.Dev) (j : Job) (v : Vi.Vw) : List (Nat × Bool) := if first0 [qa (decide (0 < oSize o)) 1, qa (fitsB o j) 2] = 0 then v.list.map (fun x => (x.1, mready o j x.1 x.2 v.nu)) else []
theorem dv_j {W W' : World} {b g : Nat} {D : Dv.Dev} (h : Dv.Dv W b g D) (k : Vi.KeptJ W W') : Dv.Dv W' b g D := by
  obtain ⟨cap, h1, ex, h2, h3⟩ := h.lay
  exact ⟨h.ok, h.ne, cap, k.block b _ _ _ (by decide) (by decide) h1, ex, k.block g _ _ _ (by decide) (by decide) h2, h3⟩
theorem dv_grown {W W' : World} {row : Option Nat} {b g : Nat} {D : Dv.Dev} (h : Dv.Dv W b g D) (hg : W.grownBy W' row) (hr : ∀ r, row = some r → ∃ o : Obj, W.heap[r]? = some o ∧ o.isCells = false) : Dv.Dv W' b g D := by
  obtain ⟨cap, h1, ex, h2, h3⟩ := h.lay
  exact ⟨h.ok, h.ne, cap, Vi.cells_kept h1 hg hr, ex, Vi.cells_kept h2 hg hr, h3⟩
theorem dq_j {W W' : World} {p : Value} {o : Option Dv.Dev} (h : Dq W p o) (k : Vi.KeptJ W W') : Dq W' p o := by
  cases o with
  | none => exact h
  | some D =>
    obtain ⟨b, g, e, hd⟩ := h
    exact ⟨b, g, e, dv_j hd k⟩
theorem dq_grown {W W' : World} {row : Option Nat} {p : Value} {o : Option Dv.Dev} (h : Dq W p o) (hg : W.grownBy W' row) (hr : ∀ r, row = some r → ∃ o : Obj, W.heap[r]? = some o ∧ o.isCells = false) : Dq W' p o := by
  cases o with
  | none => exact h
  | some D =>
    obtain ⟨b, g, e, hd⟩ := h
    exact ⟨b, g, e, dv_grown hd hg hr⟩
/-- What Ready's round leans on. -/
structure Rf (c1 c2 c3 c4 : Nat) (ao : Option Addr) (o : Option Dv.Dev) (j : Job) (v : Vi.Vw) (lp : Nat) (W : World) : Prop where
  C1 : Blk W c1 32 [.pointer ao]
  C2 : Blk W c2 23 (jobC j)
  C3 : Blk W c3 29 (Vi.vwC v)
  C4 : Blk W c4 144 [.func (.yield lp) #[] #[]]
  D : Dq W (.pointer ao) o
theorem Rf.j {c1 c2 c3 c4 : Nat} {ao : Option Addr} {o : Option Dv.Dev} {j : Job} {v : Vi.Vw} {lp : Nat} {W W' : World} (h : Rf c1 c2 c3 c4 ao o j v lp W) (k : Vi.KeptJ W W') : Rf c1 c2 c3 c4 ao o j v lp W' :=
  ⟨k.blk h.C1 (by decide) (by decide), k.blk h.C2 (by decide) (by decide), k.blk h.C3 (by decide) (by decide), k.blk h.C4 (by decide) (by decide), dq_j h.D k⟩
theorem Rf.k {c1 c2 c3 c4 : Nat} {ao : Option Addr} {o : Option Dv.Dev} {j : Job} {v : Vi.Vw} {lp : Nat} {W W' : World} (h : Rf c1 c2 c3 c4 ao o j v lp W) (k : Kept [] W W') : Rf c1 c2 c3 c4 ao o j v lp W' := h.j (Vi.KeptJ.of_kept k)
theorem Rf.grown {c1 c2 c3 c4 : Nat} {ao : Option Addr} {o : Option Dv.Dev} {j : Job} {v : Vi.Vw} {lp : Nat} {W W' : World} {row : Option Nat} (h : Rf c1 c2 c3 c4 ao o j v lp W) (hg : W.grownBy W' row) (hr : ∀ r, row = some r → ∃ o : Obj, W.heap[r]? = some o ∧ o.isCells = false) : Rf c1 c2 c3 c4 ao o j v lp W' :=
  ⟨Vi.blk_grown h.C1 hg hr, Vi.blk_grown h.C2 hg hr, Vi.blk_grown h.C3 hg hr, Vi.blk_grown h.C4 hg hr, dq_grown h.D hg hr⟩
theorem KeepsFrom.mono {B C : Nat} {W W' : World} (h : KeepsFrom B W W') (hB : B ≤ C) : KeepsFrom C W W' := ⟨h.size, fun k o hk h0 ho => h.same k o (Nat.le_trans hB hk) h0 ho⟩
section
variable {o : Oper} {a : Act} {w : World} {K : Act → World → Prop} {Q : Exit → Act → World → Prop}
theorem o_load144 (x : Operand) (ho : o.op = .load 144 x) (p : Addr) (v : Value) (hx : a.eval x = .pointer (some p)) (hc : w.cell? p = some v) (h : K (a.put o.dst v) w) : o.wp Tryz.prog a w K Q := by
  unfold Oper.wp execOp
  simp only [ho, hx]
  simp [go_sem, hc]
  exact h
theorem o_neq39 (x : Operand) (c : Int) (ho : o.op = .binOp .neq 39 x (.const (.int .i64 c)) 39) (m : Int) (r : Bool) (hr : (!decide (m = c)) = r) (hx : a.eval x = .int .i64 m) (h : K (a.put o.dst (.bool r)) w) : o.wp Tryz.prog a w K Q := by
  subst hr
  unfold Oper.wp execOp
  simp only [ho, hx]
  simp [go_sem, Act.eval]
  exact h
end
theorem wpBoxY {ops : Array Oper} {rest : List Oper} {op : Oper} {a : Act} {w : World} {Q : Exit → Act → World → Prop} {T : Nat} (hgd : op.guard = none) (x : Operand) (ho : op.op = .box T x) (lp : Nat) (hx : a.eval x = .func (.yield lp) #[] #[])
    (h : ∀ W b, b = w.heap.size → Blk W b T [.func (.yield lp) #[] #[]] → Kept [] w W → wpList Tryz.prog ops Q rest (a.put op.dst (P0 b)) W) : wpList Tryz.prog ops Q (op :: rest) a w :=
  wpList_plain hgd fun K hK => by
    unfold Oper.wp execOp
    simp only [ho, hx]
    exact hK _ _ (h _ _ rfl (Blk.new w T _) ((Kept.refl _ _).alloc _))
/-- The round of Ready: all is looked at, then it is handed on. -/
@[reducible] def SH (W0 : World) (B : Nat) (Pre Yes No : World → Prop) (d : Nat → Bool) (vs : Nat → Value) (W : World) : Prop :=
  (d 9 = false → Pre W ∧ Kept [] W0 W) ∧ (d 9 = true → (vs 9 = .bool true ∧ Yes W ∧ Vi.KeptJ W0 W ∧ KeepsFrom B W0 W) ∨ (vs 9 = .bool false ∧ No W ∧ KeepsFrom B W0 W)) ∧ (d 10 = true → d 9 = true ∧ ((vs 9 = .bool true ∧ vs 10 = .bool false) ∨ (vs 9 = .bool false ∧ vs 10 = .bool true)))
theorem SH.loc {W0 : World} {B : Nat} {Pre Yes No : World → Prop} : ∀ d d' vs vs' W, (∀ i ∈ [9, 10], d i = d' i ∧ vs i = vs' i) → SH W0 B Pre Yes No d vs W → SH W0 B Pre Yes No d' vs' W := by
  intro d d' vs vs' W H h
  have e9 := H 9 (by simp)
  have e10 := H 10 (by simp)
  unfold SH at h ⊢
  rw [← e9.1, ← e9.2, ← e10.1, ← e10.2]
  exact h
theorem cg95 (vs : Array Value) (w : World) : (callFunc 95 vs).run Tryz.prog w = .ok (.enter 95 vs) w := by kernel_rfl
set_option maxHeartbeats 4000000 in
theorem ready_in (lp c1 c2 c3 : Nat) (ao : Option Addr) (o : Option Dv.Dev) (j : Job) (v : Vi.Vw) (w : World) (C1 : Blk w c1 32 [.pointer ao]) (C2 : Blk w c2 23 (jobC j)) (C3 : Blk w c3 29 (Vi.vwC v)) (h : Dq w (.pointer ao) o) (hF : Vi.First w) (hv : v.ms.length = 8)
    (I Ix : Nat → World → Prop) (hI : ∀ k A B row, I k A → A.grownBy B row → (∀ r, row = some r → w.heap.size ≤ r ∧ ∃ o : Obj, A.heap[r]? = some o ∧ o.isCells = false) → I k B) (hIx : ∀ k A B row, Ix k A → A.grownBy B row → (∀ r, row = some r → w.heap.size ≤ r ∧ ∃ o : Obj, A.heap[r]? = some o ∧ o.isCells = false) → Ix k B)
    (hY : ∀ k x W1, (rl o j v)[k]? = some x → I k W1 → YieldAt Fence.wide 1 Tryz.prog lp #[.int .i64 x.1, .bool x.2] W1 fun e W' => (e = .returned (.bool true) ∧ I (k + 1) W' ∧ Vi.KeptJ W1 W' ∧ KeepsFrom w.heap.size W1 W') ∨ (e = .returned (.bool false) ∧ Ix (k + 1) W' ∧ KeepsFrom w.heap.size W1 W'))
    (h0 : I 0 w) : CallsIn Fence.wide 3 Tryz.prog 93 #[.func (.yield lp) #[] #[], P0 c1, P0 c2, P0 c3] w fun e W' => (∃ v, e = .returned v) ∧ (I (rl o j v).length W' ∨ ∃ k, k < (rl o j v).length ∧ Ix (k + 1) W') := by
  have hFw := Vi.wideF
  have HC1 := hide C1
  have HC2 := hide C2
  have HC3 := hide C3
  have HD := hide h
  have HF := hide hF
  have HIG := hide hI
  have HIX := hide hIx
  have HYG := hide hY
  have H0 := hide h0
  have HV := hide hv
  have HLV := hide (Vi.vwC_len hv)
  obtain ⟨S, hS⟩ : ∃ S, rl o j v = S := ⟨_, rfl⟩
  rw [hS] at HYG ⊢
  unfold rl at hS
  obtain ⟨x, hx⟩ : ∃ x, first0 [qa (decide (0 < oSize o)) 1, qa (fitsB o j) 2] = x := ⟨_, rfl⟩
  have HX := hide hx
  rw [hx] at hS
  have HS := hide hS
  obtain ⟨tb, htb⟩ : ∃ tb, (!decide (x = 0)) = tb := ⟨_, rfl⟩
  have HTB := hide htb
  clear C1 C2 C3 h hF hI hIx hY h0 hv hx hS htb
  refine callsIn_of_wp_marks Tryz.func93 rfl trivial ?_ rfl
  simp only [Tryz.ntmps93, List.size_toArray, List.length_cons, List.length_nil, Nat.reduceAdd, Nat.reduceSub, Array.replicate_succ, Array.replicate_zero, List.push_toArray, List.append_toArray, List.nil_append, List.cons_append]
  rw [wpIn_wide]
  have M : Hid (Mm [] w w []) := hide Mm.init
  go_wp2_with (
    first
    | (refine wpBoxY rfl (.tmp 0) rfl lp rfl ?_
       intro W1 b4 e1 B1 K1
       replace M : Hid (Mm [] w W1 [(b4, 144, [.func (.yield lp) #[] #[]])]) := hide ((unhide M).new e1 B1 K1)
       clear e1 B1 K1
       refine Stp.go ?_))
  constructor
  go_wp2_with fail
  refine wp_region_any mixed (wpAny_gx 8 rfl (by kernel_rfl) [some (.pointer ao), none, some (.pointer ao), some (aggV (jobC j)), none, none, some (.int .i64 x), some (.bool tb)] rfl (by kernel_rfl) (fun l vs W => (SQ w (fun _ => [(b4, 144, [.func (.yield lp) #[] #[]])]) [] [] 100 5 [(1, qa (decide (0 < oSize o)) 1), (4, qa (fitsB o j) 2)]) (fun i => l.getD i false) vs W) (⟨fun _ => ⟨(unhide M).drew, (by simp), (fun h => by cases h)⟩, fun h => by cases h⟩) ?_ ?_)
  · intro ix o' hi ho a' w2 l vs hls hlf hJ hout hin hdep hnot
    match ix, ho with
    | 0, ho =>
      obtain rfl := Option.some.inj ho
      have e0 := hout 1 (by kernel_rfl)
      replace e0 : a'.eval (.tmp 1) = _ := e0.trans rfl
      have h100 : l.getD 100 false = false := by rw [Array.getD_eq_getD_getElem?, Array.getElem?_eq_none (by omega)]; rfl
      obtain ⟨hM, -, -⟩ := hJ.1 h100
      exact o_load32 (.tmp 1) rfl _ _ e0 (fits_cell ((unhide HC1).kept hM.kept (by simp)) 0 _ rfl) ⟨_, rfl, told_of rfl, Le.keepG (St := (SQ w (fun _ => [(b4, 144, [.func (.yield lp) #[] #[]])]) [] [] 100 5 [(1, qa (decide (0 < oSize o)) 1), (4, qa (fitsB o j) 2)])) [100, 5, 1, 4] (SQ.loc (qs := [(1, qa (decide (0 < oSize o)) 1), (4, qa (fitsB o j) 2)])) (by omega) (by decide) hJ⟩
    | 1, ho =>
      obtain rfl := Option.some.inj ho
      have e0 : a'.eval (.tmp 7) = .pointer ao := by have h9 := hin 0 7 (by kernel_rfl) (by kernel_rfl); exact h9.1.trans (told_is _ h9.2 rfl)
      have h100 : l.getD 100 false = false := by rw [Array.getD_eq_getD_getElem?, Array.getElem?_eq_none (by omega)]; rfl
      obtain ⟨hM, -, -⟩ := hJ.1 h100
      refine wp_callF 44 _ _ rfl #[.pointer ao] (by simp [e0]) (cg44 _ _) ((there44 (.pointer ao) o w2 ((unhide HD).kept hM.kept)).mono ?_)
      rintro e w3 ⟨q, rfl, hq1, hk3⟩
      exact ⟨_, rfl, _, rfl, told_no rfl, Le.nextG (St := (SQ w (fun _ => [(b4, 144, [.func (.yield lp) #[] #[]])]) [] [] 100 5 [(1, qa (decide (0 < oSize o)) 1), (4, qa (fitsB o j) 2)])) (by omega) (SQ.ask hJ h100 (hnot 5 (by kernel_rfl)) hk3 hq1 (by decide) (by decide) (by simp))⟩
    | 2, ho =>
      obtain rfl := Option.some.inj ho
      have e0 := hout 1 (by kernel_rfl)
      replace e0 : a'.eval (.tmp 1) = _ := e0.trans rfl
      have h100 : l.getD 100 false = false := by rw [Array.getD_eq_getD_getElem?, Array.getElem?_eq_none (by omega)]; rfl
      obtain ⟨hM, -, -⟩ := hJ.1 h100
      exact o_load32 (.tmp 1) rfl _ _ e0 (fits_cell ((unhide HC1).kept hM.kept (by simp)) 0 _ rfl) ⟨_, rfl, told_of rfl, Le.keepG (St := (SQ w (fun _ => [(b4, 144, [.func (.yield lp) #[] #[]])]) [] [] 100 5 [(1, qa (decide (0 < oSize o)) 1), (4, qa (fitsB o j) 2)])) [100, 5, 1, 4] (SQ.loc (qs := [(1, qa (decide (0 < oSize o)) 1), (4, qa (fitsB o j) 2)])) (by omega) (by decide) hJ⟩
    | 3, ho =>
      obtain rfl := Option.some.inj ho
      have e0 := hout 2 (by kernel_rfl)
      replace e0 : a'.eval (.tmp 2) = _ := e0.trans rfl
      have h100 : l.getD 100 false = false := by rw [Array.getD_eq_getD_getElem?, Array.getElem?_eq_none (by omega)]; rfl
      obtain ⟨hM, -, -⟩ := hJ.1 h100
      exact wp_loadA jrow (.tmp 2) rfl c2 0 e0 (jobC j) rfl ((unhide HC2).kept hM.kept (by simp)).range ⟨_, rfl, told_of rfl, Le.keepG (St := (SQ w (fun _ => [(b4, 144, [.func (.yield lp) #[] #[]])]) [] [] 100 5 [(1, qa (decide (0 < oSize o)) 1), (4, qa (fitsB o j) 2)])) [100, 5, 1, 4] (SQ.loc (qs := [(1, qa (decide (0 < oSize o)) 1), (4, qa (fitsB o j) 2)])) (by omega) (by decide) hJ⟩
    | 4, ho =>
      obtain rfl := Option.some.inj ho
      have e0 : a'.eval (.tmp 9) = .pointer ao := by have h9 := hin 2 9 (by kernel_rfl) (by kernel_rfl); exact h9.1.trans (told_is _ h9.2 rfl)
      have e1 : a'.eval (.tmp 10) = aggV (jobC j) := by have h9 := hin 3 10 (by kernel_rfl) (by kernel_rfl); exact h9.1.trans (told_is _ h9.2 rfl)
      have h100 : l.getD 100 false = false := by rw [Array.getD_eq_getD_getElem?, Array.getElem?_eq_none (by omega)]; rfl
      obtain ⟨hM, -, -⟩ := hJ.1 h100
      refine wp_callF 45 _ _ rfl #[.pointer ao, aggV (jobC j)] (by simp [e0, e1]) (cg45 _ _) ((fits45 (.pointer ao) o j w2 ((unhide HD).kept hM.kept)).mono ?_)
      rintro e w3 ⟨q, rfl, hq1, hk3⟩
      exact ⟨_, rfl, _, rfl, told_no rfl, Le.nextG (St := (SQ w (fun _ => [(b4, 144, [.func (.yield lp) #[] #[]])]) [] [] 100 5 [(1, qa (decide (0 < oSize o)) 1), (4, qa (fitsB o j) 2)])) (by omega) (SQ.ask hJ h100 (hnot 5 (by kernel_rfl)) hk3 hq1 (by decide) (by decide) (by simp))⟩
    | 5, ho =>
      obtain rfl := Option.some.inj ho
      have e0 : a'.eval (.tmp 8) = vs 1 := (hin 1 8 (by kernel_rfl) (by kernel_rfl)).1
      have e1 : a'.eval (.tmp 11) = vs 4 := (hin 4 11 (by kernel_rfl) (by kernel_rfl)).1
      have h100 : l.getD 100 false = false := by rw [Array.getD_eq_getD_getElem?, Array.getElem?_eq_none (by omega)]; rfl
      obtain ⟨hM, hQ, -⟩ := hJ.1 h100
      have h1 := hdep 1 (by kernel_rfl)
      have h4 := hdep 4 (by kernel_rfl)
      exact o_bs2 (.tmp 8) (.tmp 11) rfl _ _ e0 e1 (hQ (1, qa (decide (0 < oSize o)) 1) (by simp) h1) (hQ (4, qa (fitsB o j) 2) (by simp) h4) ⟨_, rfl, told_no rfl, Le.nextG (St := (SQ w (fun _ => [(b4, 144, [.func (.yield lp) #[] #[]])]) [] [] 100 5 [(1, qa (decide (0 < oSize o)) 1), (4, qa (fitsB o j) 2)])) (by omega) (SQ.row hJ h100 (by intro q hq; simp at hq; rcases hq with rfl | rfl; exact h1; exact h4) (by decide) (by simp))⟩
    | 6, ho =>
      obtain rfl := Option.some.inj ho
      have e0 : a'.eval (.tmp 12) = vs 5 := (hin 5 12 (by kernel_rfl) (by kernel_rfl)).1
      have h100 : l.getD 100 false = false := by rw [Array.getD_eq_getD_getElem?, Array.getElem?_eq_none (by omega)]; rfl
      obtain ⟨p, hp, L, hLn, hLr, hLq, hLs⟩ := SQ.list hJ h100 (hdep 5 (by kernel_rfl))
      refine wp_callF 67 _ _ rfl #[.slice (some ⟨p, 0, none⟩) 2 2] (by simp only [List.map_toArray, List.map_cons, List.map_nil, e0]; rw [hp]; rfl) (cg67 _ _) ((told_pure p 2 2 w2 L hLn (by omega) hLr hLq).mono ?_)
      rintro e w3 ⟨rfl, hk3⟩
      rw [hLs]
      exact ⟨_, rfl, _, rfl, told_of (by rw [← unhide HX]; rfl), Le.keepG (St := (SQ w (fun _ => [(b4, 144, [.func (.yield lp) #[] #[]])]) [] [] 100 5 [(1, qa (decide (0 < oSize o)) 1), (4, qa (fitsB o j) 2)])) [100, 5, 1, 4] (SQ.loc (qs := [(1, qa (decide (0 < oSize o)) 1), (4, qa (fitsB o j) 2)])) (by omega) (by decide) (SQ.step hJ h100 hk3)⟩
    | 7, ho =>
      obtain rfl := Option.some.inj ho
      have e0 : a'.eval (.tmp 13) = .int .i64 x := by have h9 := hin 6 13 (by kernel_rfl) (by kernel_rfl); exact h9.1.trans (told_is _ h9.2 rfl)
      exact o_neq39 (.tmp 13) 0 rfl x tb (unhide HTB) e0 ⟨_, rfl, told_of rfl, Le.keepG (St := (SQ w (fun _ => [(b4, 144, [.func (.yield lp) #[] #[]])]) [] [] 100 5 [(1, qa (decide (0 < oSize o)) 1), (4, qa (fitsB o j) 2)])) [100, 5, 1, 4] (SQ.loc (qs := [(1, qa (decide (0 < oSize o)) 1), (4, qa (fitsB o j) 2)])) (by omega) (by decide) hJ⟩
  intro l_ vs4 V4 hl hJ htold
  have t0 : vs4 0 = .pointer ao := told_is _ (htold 0 (by decide)) rfl
  have t2 : vs4 2 = .pointer ao := told_is _ (htold 2 (by decide)) rfl
  have t3 : vs4 3 = aggV (jobC j) := told_is _ (htold 3 (by decide)) rfl
  have t6 : vs4 6 = .int .i64 x := told_is _ (htold 6 (by decide)) rfl
  have t7 : vs4 7 = .bool tb := told_is _ (htold 7 (by decide)) rfl
  rw [show (List.range 8).map vs4 = [vs4 0, vs4 1, vs4 2, vs4 3, vs4 4, vs4 5, vs4 6, vs4 7] from rfl]
  simp only [t0, t2, t3, t6, t7, putAll, Act.put, List.setIfInBounds_toArray, List.set_cons_succ, List.set_cons_zero]
  clear t0 t2 t3 t6 t7 htold
  have M4 : Hid (Mm [] w V4 [(b4, 144, [.func (.yield lp) #[] #[]])]) := by
    cases hd : l_.getD 100 false with
    | false => exact (hJ.1 hd).1
    | true => exact hJ.2 hd
  generalize vs4 1 = u1
  generalize vs4 4 = u4
  generalize vs4 5 = u5
  clear hJ hl M
  have hI4 := hide (unhide HIG 0 w V4 none (unhide H0) (Vi.grown_of_kept (unhide M4).kept) (fun r e => by cases e))
  cases tb with
  | false =>
    have hx0 : x = 0 := by have h9 := unhide HTB; simpa using h9
    have HSM : Hid (S = v.list.map (fun x => (x.1, mready o j x.1 x.2 v.nu))) := by
      have h9 := unhide HS
      rw [if_pos hx0] at h9
      exact h9.symm
    clear hx0 HX HS HTB
    go_wp2_with (
      first
      | (refine wpLoadA Vi.row26 rfl (.tmp 3) rfl c3 0 rfl (Vi.vwC v) (unhide HLV) ((unhide HC3).kept (unhide M4).kept (by simp)).range ?_
         refine Stp.go ?_))
    constructor
    go_wp2_with (
      first
      | (go_at_call 94
         refine (Vi.members30 v _).mono ?_
         rintro e V5 ⟨p, rfl, hbp, hgp, hk5⟩
         have HP := hide hbp
         have M5 : Hid (Mm [] w V5 [(b4, 144, [.func (.yield lp) #[] #[]])]) := hide ((unhide M4).step hk5)
         clear hbp hgp hk5
         refine Stp.go ?_))
    constructor
    go_wp2_with fail
    rw [← wpIn_wide (n := 3)]
    have HW : Hid (w.heap.size ≤ V5.heap.size) := (unhide M5).kept.size
    have HR5 : Hid (Rf c1 c2 c3 b4 ao o j v lp V5) := ⟨(unhide HC1).kept (unhide M5).kept (by simp), (unhide HC2).kept (unhide M5).kept (by simp), (unhide HC3).kept (unhide M5).kept (by simp), (unhide M5).at 0 _ rfl, (unhide HD).kept (unhide M5).kept⟩
    have HI5 := hide (unhide HIG 0 w V5 none (unhide H0) (Vi.grown_of_kept (unhide M5).kept) (fun r e => by cases e))
    have HLL : Hid (S.length = v.list.length) := by show _ = _; rw [unhide HSM, List.length_map]
    refine Vi.wp_rangeM p v v.list rfl rfl rfl (unhide HP) ((unhide HF).kept (unhide M5).kept) (unhide HV)
      (fun pre W => I pre.length W ∧ Rf c1 c2 c3 b4 ao o j v lp W) (fun c pre W => c = .ret ∧ Ix pre.length W) ?hI ?hIx ⟨unhide HI5, unhide HR5⟩
      (fun k y a' W => (I k W ∧ Rf c1 c2 c3 b4 ao o j v lp W) ∧ a' = { tmps := #[.func (.yield lp) #[] #[], P0 c1, P0 c2, P0 c3, P0 b4, .int .i64 y.1, .int .i64 y.2, .pointer ao, u1, .pointer ao, aggV (jobC j), u4, u5, .int .i64 x, .bool false, aggV (Vi.vwC v), .func (.func 142) #[] #[P0 p], .int .i64 y.1, .int .i64 y.2, undef, undef, undef, undef, undef, undef, undef, undef, undef, undef, undef], defers := [] }) ?hFr ?assign ?body ?done ?stop
    case hI =>
      intro s A B row hs hg hr
      exact ⟨unhide HIG _ A B row hs.1 hg (fun r e => ⟨Nat.le_trans (unhide HW) (hr r e).1, (hr r e).2⟩), hs.2.grown hg (fun r e => (hr r e).2)⟩
    case hIx =>
      intro c s A B row hs hg hr
      exact ⟨hs.1, unhide HIX _ A B row hs.2 hg (fun r e => ⟨Nat.le_trans (unhide HW) (hr r e).1, (hr r e).2⟩)⟩
    case hFr =>
      intro k y a' s A B row hs hg hr
      exact ⟨⟨unhide HIG _ A B row hs.1.1 hg (fun r e => ⟨Nat.le_trans (unhide HW) (hr r e).1, (hr r e).2⟩), hs.1.2.grown hg (fun r e => (hr r e).2)⟩, hs.2⟩
    case assign =>
      intro l k y W K hI hy hK
      simp only [List.zip_toArray, List.zip_cons_cons, List.zip_nil_right, List.foldl_toArray, List.foldl_cons, List.foldl_nil, List.setIfInBounds_toArray, List.set_cons_succ, List.set_cons_zero]
      have hlen : (v.list.take k).length = k := by rw [List.length_take]; have := (List.getElem?_eq_some_iff.1 hy).1; omega
      rw [hlen] at hI
      gi_wp2_with fail
      exact hK _ _ (Kept.refl _ _) ⟨hI, rfl⟩
    case body =>
      rintro l k y a' W0 hy ⟨⟨hI0, hR0⟩, rfl⟩
      have hk := (List.getElem?_eq_some_iff.1 hy).1
      have hlen : (v.list.take (k + 1)).length = k + 1 := by rw [List.length_take]; omega
      have HLN := hide hlen
      have HYY : Hid (∀ W1, I k W1 → YieldAt Fence.wide 1 Tryz.prog lp #[.int .i64 y.1, .bool (mready o j y.1 y.2 v.nu)] W1 fun e W' => (e = .returned (.bool true) ∧ I (k + 1) W' ∧ Vi.KeptJ W1 W' ∧ KeepsFrom w.heap.size W1 W') ∨ (e = .returned (.bool false) ∧ Ix (k + 1) W' ∧ KeepsFrom w.heap.size W1 W')) := fun W1 hI1 => unhide HYG k (y.1, mready o j y.1 y.2 v.nu) W1 (by rw [unhide HSM, List.getElem?_map, hy]; rfl) hI1
      have HI0 := hide hI0
      have HR0 := hide hR0
      clear hI0 hR0 hlen hy hk HYG
      gi_wp2_with fail
      refine wpIn_region_any mixed (wpAnyIn_gx 11 rfl (by kernel_rfl) [some (.func (.yield lp) #[] #[]), some (.int .i64 y.1), some (.pointer ao), some (aggV (jobC j)), some (.int .i64 y.1), some (.int .i64 y.2), some (.pointer (some ⟨c3, 0, none⟩)), some (.int .i64 v.nu), some (.bool (mready o j y.1 y.2 v.nu)), none, none] rfl (by kernel_rfl) (fun l vs W => (SH W0 w.heap.size (fun V => I k V ∧ Rf c1 c2 c3 b4 ao o j v lp V) (I (k + 1)) (Ix (k + 1))) (fun i => l.getD i false) vs W) (⟨fun _ => ⟨⟨unhide HIG k W0 _ none (unhide HI0) (Vi.grown_of_kept (Kept.refl _ _).drew) (fun r e => by cases e), (unhide HR0).k (Kept.refl _ _).drew⟩, (Kept.refl _ _).drew⟩, (fun h => by cases h), (fun h => by cases h)⟩) ?_ ?_)
      · intro ix o' hi ho a' w2 l vs hls hlf hJ hout hin hdep hnot
        match ix, ho with
        | 0, ho =>
          obtain rfl := Option.some.inj ho
          have e0 := hout 4 (by kernel_rfl)
          replace e0 : a'.eval (.tmp 4) = _ := e0.trans rfl
          refine Vi.opIn_of_op (fun c e => by cases e) ?_
          exact o_load144 (.tmp 4) rfl _ _ e0 (fits_cell (hJ.1 (hnot 9 (by kernel_rfl))).1.2.C4 0 _ rfl) ⟨_, rfl, told_of rfl, Le.keepG (St := (SH W0 w.heap.size (fun V => I k V ∧ Rf c1 c2 c3 b4 ao o j v lp V) (I (k + 1)) (Ix (k + 1)))) [9, 10] SH.loc (by omega) (by decide) hJ⟩
        | 1, ho =>
          obtain rfl := Option.some.inj ho
          have e0 := hout 5 (by kernel_rfl)
          replace e0 : a'.eval (.tmp 5) = _ := e0.trans rfl
          refine Vi.opIn_of_op (fun c e => by cases e) ?_
          exact wp_move (.tmp 5) rfl _ e0 ⟨_, rfl, told_of rfl, Le.keepG (St := (SH W0 w.heap.size (fun V => I k V ∧ Rf c1 c2 c3 b4 ao o j v lp V) (I (k + 1)) (Ix (k + 1)))) [9, 10] SH.loc (by omega) (by decide) hJ⟩
        | 2, ho =>
          obtain rfl := Option.some.inj ho
          have e0 := hout 1 (by kernel_rfl)
          replace e0 : a'.eval (.tmp 1) = _ := e0.trans rfl
          refine Vi.opIn_of_op (fun c e => by cases e) ?_
          exact o_load32 (.tmp 1) rfl _ _ e0 (fits_cell (hJ.1 (hnot 9 (by kernel_rfl))).1.2.C1 0 _ rfl) ⟨_, rfl, told_of rfl, Le.keepG (St := (SH W0 w.heap.size (fun V => I k V ∧ Rf c1 c2 c3 b4 ao o j v lp V) (I (k + 1)) (Ix (k + 1)))) [9, 10] SH.loc (by omega) (by decide) hJ⟩
        | 3, ho =>
          obtain rfl := Option.some.inj ho
          have e0 := hout 2 (by kernel_rfl)
          replace e0 : a'.eval (.tmp 2) = _ := e0.trans rfl
          refine Vi.opIn_of_op (fun c e => by cases e) ?_
          exact wp_loadA jrow (.tmp 2) rfl c2 0 e0 (jobC j) rfl (hJ.1 (hnot 9 (by kernel_rfl))).1.2.C2.range ⟨_, rfl, told_of rfl, Le.keepG (St := (SH W0 w.heap.size (fun V => I k V ∧ Rf c1 c2 c3 b4 ao o j v lp V) (I (k + 1)) (Ix (k + 1)))) [9, 10] SH.loc (by omega) (by decide) hJ⟩
        | 4, ho =>
          obtain rfl := Option.some.inj ho
          have e0 := hout 5 (by kernel_rfl)
          replace e0 : a'.eval (.tmp 5) = _ := e0.trans rfl
          refine Vi.opIn_of_op (fun c e => by cases e) ?_
          exact wp_move (.tmp 5) rfl _ e0 ⟨_, rfl, told_of rfl, Le.keepG (St := (SH W0 w.heap.size (fun V => I k V ∧ Rf c1 c2 c3 b4 ao o j v lp V) (I (k + 1)) (Ix (k + 1)))) [9, 10] SH.loc (by omega) (by decide) hJ⟩
        | 5, ho =>
          obtain rfl := Option.some.inj ho
          have e0 := hout 6 (by kernel_rfl)
          replace e0 : a'.eval (.tmp 6) = _ := e0.trans rfl
          refine Vi.opIn_of_op (fun c e => by cases e) ?_
          exact wp_move (.tmp 6) rfl _ e0 ⟨_, rfl, told_of rfl, Le.keepG (St := (SH W0 w.heap.size (fun V => I k V ∧ Rf c1 c2 c3 b4 ao o j v lp V) (I (k + 1)) (Ix (k + 1)))) [9, 10] SH.loc (by omega) (by decide) hJ⟩
        | 6, ho =>
          obtain rfl := Option.some.inj ho
          have e0 := hout 3 (by kernel_rfl)
          replace e0 : a'.eval (.tmp 3) = _ := e0.trans rfl
          refine Vi.opIn_of_op (fun c e => by cases e) ?_
          exact Vi.o_fld26a (.tmp 3) rfl c3 e0 ⟨_, rfl, told_of rfl, Le.keepG (St := (SH W0 w.heap.size (fun V => I k V ∧ Rf c1 c2 c3 b4 ao o j v lp V) (I (k + 1)) (Ix (k + 1)))) [9, 10] SH.loc (by omega) (by decide) hJ⟩
        | 7, ho =>
          obtain rfl := Option.some.inj ho
          have e0 : a'.eval (.tmp 25) = .pointer (some ⟨c3, 0, none⟩) := by have h9 := hin 6 25 (by kernel_rfl) (by kernel_rfl); exact h9.1.trans (told_is _ h9.2 rfl)
          refine Vi.opIn_of_op (fun c e => by cases e) ?_
          exact o_load2 (.tmp 25) rfl _ _ e0 (fits_cell (hJ.1 (hnot 9 (by kernel_rfl))).1.2.C3 0 _ rfl) ⟨_, rfl, told_of rfl, Le.keepG (St := (SH W0 w.heap.size (fun V => I k V ∧ Rf c1 c2 c3 b4 ao o j v lp V) (I (k + 1)) (Ix (k + 1)))) [9, 10] SH.loc (by omega) (by decide) hJ⟩
        | 8, ho =>
          obtain rfl := Option.some.inj ho
          have e0 : a'.eval (.tmp 21) = .pointer ao := by have h9 := hin 2 21 (by kernel_rfl) (by kernel_rfl); exact h9.1.trans (told_is _ h9.2 rfl)
          have e1 : a'.eval (.tmp 22) = aggV (jobC j) := by have h9 := hin 3 22 (by kernel_rfl) (by kernel_rfl); exact h9.1.trans (told_is _ h9.2 rfl)
          have e2 : a'.eval (.tmp 23) = .int .i64 y.1 := by have h9 := hin 4 23 (by kernel_rfl) (by kernel_rfl); exact h9.1.trans (told_is _ h9.2 rfl)
          have e3 : a'.eval (.tmp 24) = .int .i64 y.2 := by have h9 := hin 5 24 (by kernel_rfl) (by kernel_rfl); exact h9.1.trans (told_is _ h9.2 rfl)
          have e4 : a'.eval (.tmp 26) = .int .i64 v.nu := by have h9 := hin 7 26 (by kernel_rfl) (by kernel_rfl); exact h9.1.trans (told_is _ h9.2 rfl)
          refine Vi.opIn_of_op (fun c e => by cases e) ?_
          obtain ⟨⟨hI0, hR0⟩, hk0⟩ := hJ.1 (hnot 9 (by kernel_rfl))
          refine wp_callF 95 _ _ rfl #[.pointer ao, aggV (jobC j), .int .i64 y.1, .int .i64 y.2, .int .i64 v.nu] (by simp [e0, e1, e2, e3, e4]) (cg95 _ _) ((isReady95 (.pointer ao) o j y.1 y.2 v.nu w2 hR0.D).mono ?_)
          rintro e w3 ⟨rfl, hk3⟩
          have hn9 : l.getD 9 false = false := hnot 9 (by kernel_rfl)
          have hn10 : l.getD 10 false = false := hnot 10 (by kernel_rfl)
          exact ⟨_, rfl, _, rfl, told_of rfl, Le.keepG (St := (SH W0 w.heap.size (fun V => I k V ∧ Rf c1 c2 c3 b4 ao o j v lp V) (I (k + 1)) (Ix (k + 1)))) [9, 10] SH.loc (by omega) (by decide) ⟨fun _ => ⟨⟨unhide HIG k w2 w3 none hI0 (Vi.grown_of_kept hk3) (fun r e => by cases e), hR0.k hk3⟩, hk0.trans hk3⟩, (fun h => by have h : l.getD 9 false = true := h; rw [hn9] at h; cases h), (fun h => by have h : l.getD 10 false = true := h; rw [hn10] at h; cases h)⟩⟩
        | 9, ho =>
          obtain rfl := Option.some.inj ho
          have e0 : a'.eval (.tmp 19) = .func (.yield lp) #[] #[] := by have h9 := hin 0 19 (by kernel_rfl) (by kernel_rfl); exact h9.1.trans (told_is _ h9.2 rfl)
          have e1 : a'.eval (.tmp 20) = .int .i64 y.1 := by have h9 := hin 1 20 (by kernel_rfl) (by kernel_rfl); exact h9.1.trans (told_is _ h9.2 rfl)
          have e2 : a'.eval (.tmp 27) = .bool (mready o j y.1 y.2 v.nu) := by have h9 := hin 8 27 (by kernel_rfl) (by kernel_rfl); exact h9.1.trans (told_is _ h9.2 rfl)
          obtain ⟨⟨hI0, hR0⟩, hk0⟩ := hJ.1 hlf
          have hn10 : l.getD 10 false = false := hnot 10 (by kernel_rfl)
          refine o_yield 19 _ _ rfl e0 #[.int .i64 y.1, .bool (mready o j y.1 y.2 v.nu)] (by simp [e1, e2]) (unhide HYY w2 hI0) ?_
          rintro e w3 (⟨rfl, g1, g2, g3⟩ | ⟨rfl, g1, g3⟩)
          · exact ⟨_, rfl, _, rfl, told_no rfl, Le.nextG (St := (SH W0 w.heap.size (fun V => I k V ∧ Rf c1 c2 c3 b4 ao o j v lp V) (I (k + 1)) (Ix (k + 1)))) (by omega) ⟨(fun h => by cases h), (fun _ => .inl ⟨rfl, g1, (Vi.KeptJ.of_kept hk0).trans g2, (Vi.keepsFrom_of_kept hk0).trans g3⟩), (fun h => by have h : l.getD 10 false = true := h; rw [hn10] at h; cases h)⟩⟩
          · exact ⟨_, rfl, _, rfl, told_no rfl, Le.nextG (St := (SH W0 w.heap.size (fun V => I k V ∧ Rf c1 c2 c3 b4 ao o j v lp V) (I (k + 1)) (Ix (k + 1)))) (by omega) ⟨(fun h => by cases h), (fun _ => .inr ⟨rfl, g1, (Vi.keepsFrom_of_kept hk0).trans g3⟩), (fun h => by have h : l.getD 10 false = true := h; rw [hn10] at h; cases h)⟩⟩
        | 10, ho =>
          obtain rfl := Option.some.inj ho
          have e0 : a'.eval (.tmp 28) = vs 9 := (hin 9 28 (by kernel_rfl) (by kernel_rfl)).1
          refine Vi.opIn_of_op (fun c e => by cases e) ?_
          have h9 : l.getD 9 false = true := hdep 9 (by kernel_rfl)
          rcases hJ.2.1 h9 with ⟨hv9, g1⟩ | ⟨hv9, g1⟩
          · rw [hv9] at e0
            exact o_not (.tmp 28) rfl _ e0 ⟨_, rfl, told_no rfl, Le.nextG (St := (SH W0 w.heap.size (fun V => I k V ∧ Rf c1 c2 c3 b4 ao o j v lp V) (I (k + 1)) (Ix (k + 1)))) (by omega) ⟨hJ.1, hJ.2.1, fun _ => ⟨h9, .inl ⟨hv9, rfl⟩⟩⟩⟩
          · rw [hv9] at e0
            exact o_not (.tmp 28) rfl _ e0 ⟨_, rfl, told_no rfl, Le.nextG (St := (SH W0 w.heap.size (fun V => I k V ∧ Rf c1 c2 c3 b4 ao o j v lp V) (I (k + 1)) (Ix (k + 1)))) (by omega) ⟨hJ.1, hJ.2.1, fun _ => ⟨h9, .inr ⟨hv9, rfl⟩⟩⟩⟩
      intro l_ vs6 V6 hl hJ htold
      have t0 : vs6 0 = .func (.yield lp) #[] #[] := told_is _ (htold 0 (by decide)) rfl
      have t1 : vs6 1 = .int .i64 y.1 := told_is _ (htold 1 (by decide)) rfl
      have t2 : vs6 2 = .pointer ao := told_is _ (htold 2 (by decide)) rfl
      have t3 : vs6 3 = aggV (jobC j) := told_is _ (htold 3 (by decide)) rfl
      have t4 : vs6 4 = .int .i64 y.1 := told_is _ (htold 4 (by decide)) rfl
      have t5 : vs6 5 = .int .i64 y.2 := told_is _ (htold 5 (by decide)) rfl
      have t6 : vs6 6 = .pointer (some ⟨c3, 0, none⟩) := told_is _ (htold 6 (by decide)) rfl
      have t7 : vs6 7 = .int .i64 v.nu := told_is _ (htold 7 (by decide)) rfl
      have t8 : vs6 8 = .bool (mready o j y.1 y.2 v.nu) := told_is _ (htold 8 (by decide)) rfl
      rw [show (List.range 11).map vs6 = [vs6 0, vs6 1, vs6 2, vs6 3, vs6 4, vs6 5, vs6 6, vs6 7, vs6 8, vs6 9, vs6 10] from rfl]
      simp only [t0, t1, t2, t3, t4, t5, t6, t7, t8, putAll, Act.put, List.setIfInBounds_toArray, List.set_cons_succ, List.set_cons_zero]
      clear t0 t1 t2 t3 t4 t5 t6 t7 t8 htold
      have hJ2 := hide (hJ.2.1 (hl 9 (by decide)))
      have hJ3 := hide (hJ.2.2 (hl 10 (by decide))).2
      clear hJ hl
      rcases unhide hJ3 with ⟨h9, h10⟩ | ⟨h9, h10⟩
      · rw [h9, h10]
        rcases unhide hJ2 with ⟨-, g1, g2, g3⟩ | ⟨e9, -⟩
        · have G1 := hide g1
          have G2 := hide g2
          have G3 := hide g3
          clear g1 g2 g3 hJ2 hJ3 h9 h10
          gi_wp2_with fail
          refine ⟨KeepsFrom.mono (unhide G3) (unhide HW), unhide G2, ?_⟩
          refine ⟨?_, (unhide HR0).j (unhide G2)⟩
          rw [unhide HLN]
          exact unhide G1
        · rw [h9] at e9; cases e9
      · rw [h9, h10]
        rcases unhide hJ2 with ⟨e9, -⟩ | ⟨-, g1, g3⟩
        · rw [h9] at e9; cases e9
        · have G1 := hide g1
          have G3 := hide g3
          clear g1 g3 hJ2 hJ3 h9 h10
          gi_wp2_with fail
          refine ⟨KeepsFrom.mono (unhide G3) (unhide HW), rfl, ?_⟩
          rw [unhide HLN]
          exact unhide G1
    case done =>
      rintro E W hE hI hK
      have HI := hide hI
      have HDK := hide hK
      have HDG : Hid (w.heap.size ≤ E) := Nat.le_trans (unhide HW) hE
      clear hI hK
      go_wp2_with fail
      have hgr := grownBy_putObj' W E (Obj.deferred none)
      refine (show LeavesInM Fence.wide 3 Tryz.prog Tryz.f93 _ _ [{ target := .collected E, args := #[] }] .returning W from ?_)
      refine ⟨by simp, .inl ⟨_, _, rfl, run_takeDeferred (unhide HDK), ?_⟩⟩
      refine ⟨_, results_none rfl _ _ _, ⟨_, rfl⟩, .inl ?_⟩
      rw [unhide HLL]
      exact unhide HIG _ W _ (some E) (unhide HI).1 hgr (fun r e => by cases e; exact ⟨unhide HDG, _, unhide HDK, rfl⟩)
    case stop =>
      rintro E c k W hE hk ⟨rfl, hX⟩ hK
      have hlen : (v.list.take (k + 1)).length = k + 1 := by rw [List.length_take]; omega
      rw [hlen] at hX
      have HI := hide hX
      have HDK := hide hK
      have HDG : Hid (w.heap.size ≤ E) := Nat.le_trans (unhide HW) hE
      have HKK := hide hk
      clear hX hK hlen hk
      rw [wpIn_wide]
      go_wp2_with fail
      have hgr := grownBy_putObj' W E (Obj.deferred none)
      refine (show LeavesInM Fence.wide 3 Tryz.prog Tryz.f93 _ _ [{ target := .collected E, args := #[] }] .returning W from ?_)
      refine ⟨by simp, .inl ⟨_, _, rfl, run_takeDeferred (unhide HDK), ?_⟩⟩
      refine ⟨_, results_none rfl _ _ _, ⟨_, rfl⟩, .inr ⟨k, by rw [unhide HLL]; exact unhide HKK, ?_⟩⟩
      exact unhide HIX _ W _ (some E) (unhide HI) hgr (fun r e => by cases e; exact ⟨unhide HDG, _, unhide HDK, rfl⟩)
  | true =>
    have hx0 : ¬ x = 0 := by have h9 := unhide HTB; simpa using h9
    have HSM : Hid (S = []) := by
      have h9 := unhide HS
      rw [if_neg hx0] at h9
      exact h9.symm
    clear HX HS HTB hx0
    go_wp2_with fail
    refine (show LeavesInM Fence.wide 3 Tryz.prog Tryz.f93 _ _ [] .returning _ from ?_)
    refine ⟨_, results_none rfl _ _ _, ⟨_, rfl⟩, .inl ?_⟩
    rw [unhide HSM]
    exact unhide hI4

end Go.Proofs.YtcfflbafclmheaaGreatDoor
