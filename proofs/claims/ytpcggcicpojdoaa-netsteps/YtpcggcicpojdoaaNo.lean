/-
  Deliver, Drop, Clear, At.
-/
import Derived.Test.YtpcggcicpojdoaaNm
namespace Go.Proofs.Ytpcggcicpojdoaa
open Go.RowKit

theorem res18 (w : World) (z : Nat) (vs : List Value) (e : Int) (tmps : Array Value) (hl : vs.length = 4) (h4 : tmps[4]?.getD undef = P0 z) (h5 : tmps[5]?.getD undef = .int .i64 e) (hb : Blk w z 47 vs) : (results Try.f18 tmps).run Try.prog w = .ok (.tuple #[aggV vs, .int .i64 e]) w := by
  have := loadV row47 hl hb
  simp [results, Try.results18, h4, h5, this, asAddr]
theorem wpBox1 {ops : Array Oper} {rest : List Oper} {op : Oper} {a : Act} {w : World} {Q : Exit → Act → World → Prop} {T : Nat} (v : Value) (hr : ∀ w : World, (Instr.box T v).run Try.prog w = .ok (P0 w.heap.size) (w.alloc (.cells [v].toArray T))) (hgd : op.guard = none) (x : Operand) (ho : op.op = .box T x) (hx : a.eval x = v)
    (h : ∀ W b, b = w.heap.size → Blk W b T [v] → Kept [] w W → wpList Try.prog ops Q rest (a.put op.dst (P0 b)) W) : wpList Try.prog ops Q (op :: rest) a w :=
  wpList_plain hgd fun K hK => by
    unfold Oper.wp execOp
    simp only [ho, hx, Sem.run_bind, hr, Result.andThen_ok]
    exact hK _ _ (h _ _ rfl (Blk.new w T [v]) ((Kept.refl _ _).alloc _))
theorem box2 (k : Int) (w : World) : (Instr.box 2 (.int .i64 k)).run Try.prog w = .ok (P0 w.heap.size) (w.alloc (.cells [Value.int .i64 k].toArray 2)) := by kernel_rfl
theorem box3 (k : Int) (w : World) : (Instr.box 3 (.int .i64 k)).run Try.prog w = .ok (P0 w.heap.size) (w.alloc (.cells [Value.int .i64 k].toArray 3)) := by kernel_rfl
set_option maxHeartbeats 2000000 in
theorem deliver_none (b mb : Nat) (v : Value) (N : Nn) (k : Int) (w : World) (h : Nt w b mb v N) (hp : placeOf k N.L 0 = none) : Calls Try.prog 18 #[P0 b, .int .i64 k] w fun e w' => e = .returned (.tuple #[aggV zL, .int .i64 6]) ∧ Kept [] w w' := by
  have PN := hide (fun W (hk : Kept [] w W) => none38 b mb v N W (h.kept0 hk))
  have hz : lookL k N.L = zLtr := by unfold lookL; rw [hp]
  have PL := hide (fun W (hk : Kept [] w W) => look34 b mb v N k W (h.kept0 hk))
  rw [hz, hp] at PL
  have HK := hide (Kept.refl [] w)
  clear h hp hz
  go_enter Try.func18, Try.ntmps18
  go_wp2_with (
    first
    | (refine wpBox1 (T := 2) (.int .i64 k) (box2 k) (by rfl) (.tmp 1) (by rfl) (by kernel_rfl) ?_
       intro W1 q e1 B1 K1
       have HQ := hide B1
       have HFQ : Hid (w.heap.size ≤ q) := by rw [e1]; exact (unhide HK).size
       replace HK := hide ((unhide HK).trans K1)
       clear e1 B1 K1
       refine Stp.go ?_))
  constructor
  go_wp2_with (
    first
    | (refine wpAllocW zL alloc47 4 (by rfl) (by rfl) (by rfl) ?_
       intro W2 p2 e2 B2 K2
       have HF2 : Hid (w.heap.size ≤ p2) := by rw [e2]; exact (unhide HK).size
       have HZ := hide B2
       replace HQ := hide ((unhide HQ).kept K2 (by simp))
       replace HK := hide ((unhide HK).trans K2)
       have hcq := fits_cell (unhide HQ) 0 _ rfl
       clear e2 B2 K2
       refine Stp.go ?_))
  constructor
  go_wp2_with (
    first
    | (go_at_call 38
       refine (unhide PN _ (unhide HK)).mono ?_
       rintro e V1 ⟨rfl, hw1⟩
       obtain rfl := hw1.symm
       clear hw1
       refine Stp.go ?_))
  constructor
  go_wp2_with (
    first
    | (go_at_call 34
       refine (unhide PL _ (unhide HK)).mono ?_
       rintro e W3 ⟨u, rfl, hB, hfr, K3⟩
       have HBU := hide hB
       have HFU : Hid (∀ j, u.ownBlock = some j → w.heap.size ≤ j ∧ j ≠ p2) := fun j hj => by have := hfr j hj; have := (unhide HK).size; have := (unhide HZ).lt; exact ⟨by omega, by omega⟩
       replace HQ := hide ((unhide HQ).kept K3 (by simp))
       replace HZ := hide ((unhide HZ).kept K3 (by simp))
       replace HK := hide ((unhide HK).trans K3)
       clear hB hfr K3 hcq
       refine Stp.go ?_))
  constructor
  go_wp2_with (
    first
    | (refine wpNew row47 zL rfl alloc47 6 (by rfl) (by rfl) (by rfl) (.tmp 16) (by rfl) (by rfl) (by rfl) (zLtr.D u) rfl (D_one (unhide HBU).one) (by kernel_rfl) (by kernel_rfl) ?_
       intro W4 p3 e3 B3 K4
       have HB3 := hide B3
       have HF3 : Hid (w.heap.size ≤ p3) := by rw [e3]; exact (unhide HK).size
       have HFU3 : Hid (∀ j, u.ownBlock = some j → j ≠ p3) := fun j hj => by obtain ⟨cs, hc⟩ := (unhide HBU).block j hj; have := lt_of_block hc; show _ ≠ _; omega
       replace HBU := hide ((unhide HBU).kept K4 (by simp))
       replace HQ := hide ((unhide HQ).kept K4 (by simp))
       replace HZ := hide ((unhide HZ).kept K4 (by simp))
       replace HK := hide ((unhide HK).trans K4)
       skip
       clear e3 B3 K4
       refine Stp.go ?_))
  constructor
  go_wp2_with (
    first
    | (refine wpBuildZ zL build47 (by rfl) (by rfl) ?_
       refine Stp.go ?_))
  constructor
  go_wp2_with (
    first
    | (refine wpStoreW row47 (by rfl) (.tmp 4) (.tmp 20) (by rfl) (by rfl) p2 zL zL (by kernel_rfl) (by kernel_rfl) rfl zL_one (unhide HZ) rfl ?_
       intro W5 B5 K5
       replace HZ := hide B5
       replace HK := hide ((unhide HK).fresh K5 (fun i hi hl => by have : w.heap.size ≤ p2 := unhide HF2; simp at hi; omega))
       clear B5 K5))
  exact bodyPost_ret (res18 _ p2 zL 6 _ rfl rfl rfl (unhide HZ)) rfl ⟨rfl, unhide HK⟩
theorem lookL_some {k : Int} {L : List Ltr} {i : Nat} {l : Ltr} (h : placeOf k L 0 = some (i, l)) : lookL k L = l := by unfold lookL; rw [h]
theorem nums_split {L : List Ltr} {i : Nat} {l : Ltr} (h : L[i]? = some l) : nums L = nums (L.take i) ++ Value.int .i64 l.num :: nums (L.drop (i + 1)) := by
  obtain ⟨hlt, rfl⟩ := List.getElem?_eq_some_iff.1 h
  unfold nums
  conv => lhs; rw [← List.take_append_drop i L, List.drop_eq_getElem_cons hlt]
  rw [List.map_append, List.map_cons]
theorem nums_erase {L : List Ltr} (i : Nat) : nums (L.eraseIdx i) = nums (L.take i) ++ nums (L.drop (i + 1)) := by
  rw [List.eraseIdx_eq_take_drop_succ]
  unfold nums
  simp
theorem Nt.erase {W W' : World} {b mb : Nat} {v v' : Value} {N : Nn} (h : Nt W b mb v N) (i : Nat) (hhd : Blk W' b 58 [.int .i64 N.nodes, .int .i64 N.last, .map (some mb), v']) (hm : MapAt W' mb (N.L.eraseIdx i)) (ho : W'.ownsRow 0 2 1 v' (N.L.eraseIdx i).length (nums (N.L.eraseIdx i))) (hk : Kept (nX b mb v) W W') : Nt W' b mb v' ⟨N.nodes, N.last, N.L.eraseIdx i⟩ := by
  have hmem : ∀ l ∈ N.L.eraseIdx i, l ∈ N.L := fun l hl => List.mem_of_mem_eraseIdx hl
  exact ⟨h.nodes, hhd, hm, ho, fun l hl => (h.body l (hmem l hl)).kept hk (h.away (h.body l (hmem l hl))), h.last, by
    have h1 := h.many
    have h2 : (N.L.eraseIdx i).length ≤ N.L.length := (List.eraseIdx_sublist N.L i).length_le
    show (N.L.eraseIdx i).length ≤ 4096
    omega, fun l hl => h.num l (hmem l hl), h.rise.sublist (List.eraseIdx_sublist _ _), fun l hl => h.small l (hmem l hl), fun l hl => h.ends l (hmem l hl)⟩
set_option maxHeartbeats 4000000 in
set_option maxRecDepth 100000 in
theorem deliver_yes (b mb : Nat) (v : Value) (N : Nn) (k : Int) (w : World) (h : Nt w b mb v N) (i : Nat) (l0 : Ltr) (hp : placeOf k N.L 0 = some (i, l0)) : Calls Try.prog 18 #[P0 b, .int .i64 k] w fun e w' => ∃ v' u, e = .returned (.tuple #[aggV (l0.D u), .int .i64 0]) ∧ Nt w' b mb v' ⟨N.nodes, N.last, N.L.eraseIdx i⟩ ∧ Bod w' u l0.bs ∧ Kept (nX b mb v) w w' ∧ v'.ownBlock = v.ownBlock := by
  obtain ⟨_, hl, hk0⟩ := placeOf_some hp
  simp only [Nat.sub_zero] at hl
  have hilt : i < N.L.length := (List.getElem?_eq_some_iff.1 hl).1
  have hord := h.ord
  rw [← nums_len] at hord
  obtain ⟨g, ex, rfl, _, hBg⟩ := owns_blk hord (by intro e; have := congrArg List.length e; rw [nums_len] at this; simp at this; rw [this] at hilt; simp at hilt)
  have hcm : (nums N.L ++ ex).length ≤ maxLen := by
    rcases hord.2 with ⟨h1, _⟩ | ⟨g', cap, cur, h1, _, _, _, h5, _⟩
    · cases h1
    · cases h1
      exact h5
  obtain ⟨n, hn⟩ : ∃ n, (nums N.L).length = n := ⟨_, rfl⟩
  obtain ⟨cap, hcap⟩ : ∃ cap, (nums N.L ++ ex).length = cap := ⟨_, rfl⟩
  have hsp := nums_split hl
  have her := nums_erase (L := N.L) i
  obtain ⟨Pr, hPr⟩ : ∃ Pr, N.L.take i = Pr := ⟨_, rfl⟩
  obtain ⟨Q, hQ⟩ : ∃ Q, N.L.drop (i + 1) = Q := ⟨_, rfl⟩
  rw [hPr, hQ] at hsp her
  have hpl : (nums Pr).length = i := by rw [nums_len, ← hPr, List.length_take]; omega
  rw [hn, hcap] at h hord ⊢
  rw [hcap] at hcm
  have hn2 : n = i + 1 + (nums Q).length := by
    rw [← hn, hsp, List.length_append, List.length_cons, hpl]
    omega
  have hcap2 : cap = n + ex.length := by rw [← hcap, List.length_append, hn]
  have hBg2 := hBg
  rw [hsp] at hBg2
  have hlz := lookL_some hp
  have hpi : placeI k N.L = i := by unfold placeI; rw [hp]
  have PN := hide (fun W (hk : Kept [] w W) => none38 b mb _ N W (h.kept0 hk))
  have PL := hide (fun W (hk : Kept [] w W) => look34 b mb _ N k W (h.kept0 hk))
  rw [hlz, hp] at PL
  have PP := hide (fun W (hk : Kept [] w W) q (hq : Blk W q 2 [.int .i64 k]) => place43 b mb _ N q k W (h.kept0 hk) (fits_cell hq 0 _ rfl))
  rw [hpi] at PP
  have PD := hide (fun W (hk : Kept [] w W) => del45 g i n cap (nums Pr) (nums Q) _ ex W (hBg2.kept hk (by simp)) hpl hn2 hcap2 (nums_one Q))
  have HH := hide h.head
  have HN := hide h
  have HP := hide hp
  have HK := hide (Kept.refl [] w)
  have hlt3 := h.lt
  have HLT : Hid (b < w.heap.size ∧ mb < w.heap.size ∧ g < w.heap.size) := ⟨hlt3.1, hlt3.2.1, hBg.lt⟩
  have HBG : Hid (b ≠ g) := by
    have h1 := not_in_own h.head h.ord (by decide)
    intro e
    exact h1 (by rw [e]; rfl)
  have HMG : Hid (mb ≠ g) := fun e => map_not_cells h.map hBg e.symm
  have HBM : Hid (b ≠ mb) := fun e => map_not_cells h.map h.head e
  have hiw : IntKind.i64.wrap ((i : Int) + 1) = (i : Int) + 1 := by have := h.many; rw [IntKind.wrap_i64]; omega
  have HE := hide her
  have HS : Hid (i + (nums Q).length ≤ cap ∧ cap ≤ maxLen ∧ cap = i + (nums Q).length + 1 + ex.length ∧ (nums Pr).length = i) := ⟨by omega, hcm, by omega, hpl⟩
  clear h hp hl hk0 hord hBg hBg2 hn hcap hsp her hPr hQ hpl hn2 hcap2 hlz hpi hlt3 hcm hilt
  go_enter Try.func18, Try.ntmps18
  go_wp2_with (
    first
    | (refine wpBox1 (T := 2) (.int .i64 k) (box2 k) (by rfl) (.tmp 1) (by rfl) (by kernel_rfl) ?_
       intro W1 q e1 B1 K1
       have HQ := hide B1
       have HFQ : Hid (w.heap.size ≤ q) := by rw [e1]; exact (unhide HK).size
       replace HK := hide ((unhide HK).trans K1)
       clear e1 B1 K1
       refine Stp.go ?_))
  constructor
  go_wp2_with (
    first
    | (refine wpAllocW zL alloc47 4 (by rfl) (by rfl) (by rfl) ?_
       intro W2 p2 e2 B2 K2
       have HF2 : Hid (w.heap.size ≤ p2) := by rw [e2]; exact (unhide HK).size
       have HZ := hide B2
       replace HQ := hide ((unhide HQ).kept K2 (by simp))
       replace HK := hide ((unhide HK).trans K2)
       have hcq := fits_cell (unhide HQ) 0 _ rfl
       clear e2 B2 K2
       refine Stp.go ?_))
  constructor
  go_wp2_with (
    first
    | (go_at_call 38
       refine (unhide PN _ (unhide HK)).mono ?_
       rintro e V1 ⟨rfl, hw1⟩
       obtain rfl := hw1.symm
       clear hw1
       refine Stp.go ?_))
  constructor
  go_wp2_with (
    first
    | (go_at_call 34
       refine (unhide PL _ (unhide HK)).mono ?_
       rintro e W3 ⟨u, rfl, hB, hfr, K3⟩
       have HBU := hide hB
       have HFU : Hid (∀ j, u.ownBlock = some j → w.heap.size ≤ j ∧ j ≠ p2) := fun j hj => by have := hfr j hj; have := (unhide HK).size; have := (unhide HZ).lt; exact ⟨by omega, by omega⟩
       replace HQ := hide ((unhide HQ).kept K3 (by simp))
       replace HZ := hide ((unhide HZ).kept K3 (by simp))
       replace HK := hide ((unhide HK).trans K3)
       clear hB hfr K3 hcq
       refine Stp.go ?_))
  constructor
  go_wp2_with (
    first
    | (refine wpNew row47 zL rfl alloc47 6 (by rfl) (by rfl) (by rfl) (.tmp 16) (by rfl) (by rfl) (by rfl) (l0.D u) rfl (D_one (unhide HBU).one) (by kernel_rfl) (by kernel_rfl) ?_
       intro W4 p3 e3 B3 K4
       have HB3 := hide B3
       have HF3 : Hid (w.heap.size ≤ p3) := by rw [e3]; exact (unhide HK).size
       have HFU3 : Hid (∀ j, u.ownBlock = some j → j ≠ p3) := fun j hj => by obtain ⟨cs, hc⟩ := (unhide HBU).block j hj; have := lt_of_block hc; show _ ≠ _; omega
       replace HBU := hide ((unhide HBU).kept K4 (by simp))
       replace HQ := hide ((unhide HQ).kept K4 (by simp))
       replace HZ := hide ((unhide HZ).kept K4 (by simp))
       replace HK := hide ((unhide HK).trans K4)
       skip
       clear e3 B3 K4
       refine Stp.go ?_))
  constructor
  go_wp2_with (
    first
    | (go_at_call 43
       refine (unhide PP _ (unhide HK) q (unhide HQ)).mono ?_
       rintro e V9 ⟨rfl, hw9⟩
       obtain rfl := hw9.symm
       have hc3 := fits_cell ((unhide HH).kept (unhide HK) (by simp)) 3 _ rfl
       clear hw9
       refine Stp.go ?_))
  constructor
  go_wp2_with (
    first
    | (go_at_call 45
       refine (unhide PD _ (unhide HK)).mono ?_
       rintro e W5 ⟨rfl, B5, K5⟩
       have HG := hide B5
       have hg9 := unhide HLT
       have HB5 : Hid (Blk W5 b 58 [.int .i64 N.nodes, .int .i64 N.last, .map (some mb), .slice (some ⟨g, 0, none⟩) n cap]) := ((unhide HH).kept (unhide HK) (by simp)).kept K5 (by simp; exact unhide HBG)
       have HM : Hid (MapAt W5 mb N.L) := ((unhide HN).map.kept (unhide HK) (by simp)).kept K5 (by simp; exact unhide HMG)
       replace HBU := hide ((unhide HBU).kept K5 (fun j hj => by have := unhide HFU j hj; simp; omega))
       replace HQ := hide ((unhide HQ).kept K5 (by have : w.heap.size ≤ q := unhide HFQ; simp; omega))
       replace HZ := hide ((unhide HZ).kept K5 (by have : w.heap.size ≤ p2 := unhide HF2; simp; omega))
       replace HB3 := hide ((unhide HB3).kept K5 (by have : w.heap.size ≤ p3 := unhide HF3; simp; omega))
       replace HK : Hid (Kept [b, mb, g] w W5) := ((unhide HK).mono (by simp)).trans (K5.mono (by simp))
       clear B5 K5 hc3 hg9
       refine Stp.go ?_))
  constructor
  go_wp2_with (
    first
    | (refine wpStoreV (T := 56) (b := b) (i := 3) (v := .slice (some ⟨g, 0, none⟩) (i + (nums Q).length) cap) (by rfl) (.tmp 34) (.tmp 32) (by rfl) (by rfl) (by kernel_rfl) (by kernel_rfl) 58 _ (unhide HB5) (st56 _ _ _ _ _ _ _ _ (unhide HB5) (by simp)) ?_
       intro W6 B6 K6
       have hg9 := unhide HLT
       replace HB5 : Hid (Blk W6 b 58 [.int .i64 N.nodes, .int .i64 N.last, .map (some mb), .slice (some ⟨g, 0, none⟩) (i + (nums Q).length) cap]) := B6
       replace HG := hide ((unhide HG).kept K6 (by simp; exact fun e => unhide HBG e.symm))
       replace HM := hide ((unhide HM).kept K6 (by simp; exact fun e => unhide HBM e.symm))
       replace HBU := hide ((unhide HBU).kept K6 (fun j hj => by have := unhide HFU j hj; simp; omega))
       replace HQ := hide ((unhide HQ).kept K6 (by have : w.heap.size ≤ q := unhide HFQ; simp; omega))
       replace HZ := hide ((unhide HZ).kept K6 (by have : w.heap.size ≤ p2 := unhide HF2; simp; omega))
       replace HB3 := hide ((unhide HB3).kept K6 (by have : w.heap.size ≤ p3 := unhide HF3; simp; omega))
       replace HK := hide ((unhide HK).trans (K6.mono (by simp)))
       clear B6 K6 hg9))
  refine wp_region_any mixed (wpAny_gx 6 rfl (by kernel_rfl) [some (P0 b), some (P0 b), some (.pointer (some ⟨b, 2, none⟩)), some (.map (some mb)), some (.int .i64 k), none] rfl (by kernel_rfl) (fun l vs W => (fun (bb : Bool) (_ : Value) (W : World) => (bb = false → Kept [] W6 W) ∧ (bb = true → MapAt W mb (N.L.eraseIdx i) ∧ Kept [mb] W6 W)) (l.getD 5 false) (vs 5) W) (⟨fun _ => ⟨rfl, rfl, rfl, Nat.le_refl _, fun _ _ _ => rfl⟩, fun h => by cases h⟩) ?_ ?_)
  · intro ix o' hi ho a' w2 l vs hls hlf hJ hout hin hdep hnot
    match ix, ho with
    | 0, ho =>
      obtain rfl := Option.some.inj ho
      have e0 := hout 0 (by kernel_rfl)
      replace e0 : a'.eval (.tmp 0) = _ := e0.trans rfl
      exact wp_move (.tmp 0) rfl _ e0 ⟨_, rfl, told_of rfl, keep1 (St := (fun (bb : Bool) (_ : Value) (W : World) => (bb = false → Kept [] W6 W) ∧ (bb = true → MapAt W mb (N.L.eraseIdx i) ∧ Kept [mb] W6 W))) (v := undef) (vs := vs) (by omega) (by decide) hJ⟩
    | 1, ho =>
      obtain rfl := Option.some.inj ho
      have e0 : a'.eval (.tmp 35) = P0 b := by have h9 := hin 0 35 (by kernel_rfl) (by kernel_rfl); exact h9.1.trans (told_is _ h9.2 rfl)
      exact o_nil (.tmp 35) rfl _ e0 ⟨_, rfl, told_of rfl, keep1 (St := (fun (bb : Bool) (_ : Value) (W : World) => (bb = false → Kept [] W6 W) ∧ (bb = true → MapAt W mb (N.L.eraseIdx i) ∧ Kept [mb] W6 W))) (v := undef) (vs := vs) (by omega) (by decide) hJ⟩
    | 2, ho =>
      obtain rfl := Option.some.inj ho
      have e0 : a'.eval (.tmp 36) = P0 b := by have h9 := hin 1 36 (by kernel_rfl) (by kernel_rfl); exact h9.1.trans (told_is _ h9.2 rfl)
      exact o_fld58_2 (.tmp 36) rfl _ e0 ⟨_, rfl, told_of rfl, keep1 (St := (fun (bb : Bool) (_ : Value) (W : World) => (bb = false → Kept [] W6 W) ∧ (bb = true → MapAt W mb (N.L.eraseIdx i) ∧ Kept [mb] W6 W))) (v := undef) (vs := vs) (by omega) (by decide) hJ⟩
    | 3, ho =>
      obtain rfl := Option.some.inj ho
      have e0 : a'.eval (.tmp 37) = .pointer (some ⟨b, 2, none⟩) := by have h9 := hin 2 37 (by kernel_rfl) (by kernel_rfl); exact h9.1.trans (told_is _ h9.2 rfl)
      exact o_load55 (.tmp 37) rfl _ _ e0 (fits_cell ((unhide HB5).kept (hJ.1 (hnot 5 (by kernel_rfl))) (by simp)) 2 _ rfl) ⟨_, rfl, told_of rfl, keep1 (St := (fun (bb : Bool) (_ : Value) (W : World) => (bb = false → Kept [] W6 W) ∧ (bb = true → MapAt W mb (N.L.eraseIdx i) ∧ Kept [mb] W6 W))) (v := undef) (vs := vs) (by omega) (by decide) hJ⟩
    | 4, ho =>
      obtain rfl := Option.some.inj ho
      have e0 := hout 3 (by kernel_rfl)
      replace e0 : a'.eval (.tmp 3) = _ := e0.trans rfl
      exact o_load2 (.tmp 3) rfl _ _ e0 (fits_cell ((unhide HQ).kept (hJ.1 (hnot 5 (by kernel_rfl))) (by simp)) 0 _ rfl) ⟨_, rfl, told_of rfl, keep1 (St := (fun (bb : Bool) (_ : Value) (W : World) => (bb = false → Kept [] W6 W) ∧ (bb = true → MapAt W mb (N.L.eraseIdx i) ∧ Kept [mb] W6 W))) (v := undef) (vs := vs) (by omega) (by decide) hJ⟩
    | 5, ho =>
      obtain rfl := Option.some.inj ho
      have e0 : a'.eval (.tmp 38) = .map (some mb) := by have h9 := hin 3 38 (by kernel_rfl) (by kernel_rfl); exact h9.1.trans (told_is _ h9.2 rfl)
      have e1 : a'.eval (.tmp 39) = .int .i64 k := by have h9 := hin 4 39 (by kernel_rfl) (by kernel_rfl); exact h9.1.trans (told_is _ h9.2 rfl)
      exact o_del (.tmp 38) (.tmp 39) rfl mb N.L k i l0 e0 e1 ((unhide HM).kept (hJ.1 hlf) (by simp)) (unhide HP) fun W hM hk => ⟨_, rfl, told_no rfl, next1 (St := (fun (bb : Bool) (_ : Value) (W : World) => (bb = false → Kept [] W6 W) ∧ (bb = true → MapAt W mb (N.L.eraseIdx i) ∧ Kept [mb] W6 W))) (v := undef) (vs := vs) (by omega) ⟨(fun h => by cases h), fun _ => ⟨hM, ((hJ.1 hlf).mono (by simp)).trans hk⟩⟩⟩
  intro l vs w9 hl hJ htold
  have t0 : vs 0 = P0 b := told_is _ (htold 0 (by decide)) rfl
  have t1 : vs 1 = P0 b := told_is _ (htold 1 (by decide)) rfl
  have t2 : vs 2 = .pointer (some ⟨b, 2, none⟩) := told_is _ (htold 2 (by decide)) rfl
  have t3 : vs 3 = .map (some mb) := told_is _ (htold 3 (by decide)) rfl
  have t4 : vs 4 = .int .i64 k := told_is _ (htold 4 (by decide)) rfl
  have hl5 := hl 5 (by decide)
  rw [hl5] at hJ
  rw [show (List.range 6).map vs = [vs 0, vs 1, vs 2, vs 3, vs 4, vs 5] from rfl]
  simp only [t0, t1, t2, t3, t4, putAll, Act.put, List.setIfInBounds_toArray, List.set_cons_succ, List.set_cons_zero]
  clear t0 t1 t2 t3 t4 htold hl hl5
  obtain ⟨hM9, hK9⟩ := hJ.2 rfl
  have hg9 := unhide HLT
  replace HM := hide hM9
  replace HB5 := hide ((unhide HB5).kept hK9 (by simp; exact unhide HBM))
  replace HG := hide ((unhide HG).kept hK9 (by simp; exact fun e => unhide HMG e.symm))
  replace HBU := hide ((unhide HBU).kept hK9 (fun j hj => by have := unhide HFU j hj; simp; omega))
  replace HZ := hide ((unhide HZ).kept hK9 (by have : w.heap.size ≤ p2 := unhide HF2; simp; omega))
  replace HB3 := hide ((unhide HB3).kept hK9 (by have : w.heap.size ≤ p3 := unhide HF3; simp; omega))
  replace HK := hide ((unhide HK).trans (hK9.mono (by simp)))
  clear hJ hM9 hK9 hg9 HQ PN PL PP PD
  go_wp2_with (
    first
    | (refine wpLoadA row47 (by rfl) (.tmp 6) (by rfl) p3 0 (by kernel_rfl) (l0.D u) rfl (unhide HB3).range ?_
       refine Stp.go ?_))
  constructor
  go_wp2_with (
    first
    | (refine wpStoreW row47 (by rfl) (.tmp 4) (.tmp 40) (by rfl) (by rfl) p2 zL (l0.D u) (by kernel_rfl) (by kernel_rfl) rfl (D_one (unhide HBU).one) (unhide HZ) rfl ?_
       intro W10 B10 K10
       have hg9 := unhide HLT
       have hf9 : w.heap.size ≤ p2 := unhide HF2
       replace HZ := hide B10
       replace HM := hide ((unhide HM).kept K10 (by simp; omega))
       replace HB5 := hide ((unhide HB5).kept K10 (by simp; omega))
       replace HG := hide ((unhide HG).kept K10 (by simp; omega))
       replace HBU := hide ((unhide HBU).kept K10 (fun j hj => by have := (unhide HFU j hj).2; simp; omega))
       replace HK := hide ((unhide HK).fresh K10 (fun j hj hl => by simp at hj; omega))
       clear B10 K10 hg9 hf9))
  have hs := unhide HS
  have hks : Kept (nX b mb (.slice (some ⟨g, 0, none⟩) n cap)) w W10 := (unhide HK).mono (by simp [nX, Value.ownBlock])
  refine bodyPost_ret (res18 _ p2 (l0.D u) 0 _ rfl rfl rfl (unhide HZ)) rfl ⟨.slice (some ⟨g, 0, none⟩) (i + (nums Q).length) cap, u, rfl, (unhide HN).erase i (unhide HB5) (unhide HM) ?_ hks, unhide HBU, hks, rfl⟩
  rw [unhide HE]
  have e1 : (N.L.eraseIdx i).length = (nums Pr ++ nums Q).length := by rw [← unhide HE, nums_len]
  have e2 : i + (nums Q).length = (nums Pr ++ nums Q).length := by rw [List.length_append, hs.2.2.2]
  rw [e1, e2]
  refine ⟨by rw [Nat.mul_one], .inr ⟨g, cap, _, rfl, Nat.zero_le _, unhide HG, by omega, hs.2.1, ?_, ?_⟩⟩
  · simp
    have := nums_len Q
    have := nums_len Pr
    omega
  · rw [Nat.mul_one]
    exact List.take_left

end Go.Proofs.Ytpcggcicpojdoaa
