/-
  PoolNil.
-/
import Derived.Test.YtgnafbohikbpfaaQp
namespace Go.Proofs.Ytgnafbohikbpfaa
set_option maxRecDepth 100000
set_option linter.unusedSimpArgs false
open Go.RowKit


variable {w0 w W W' : World} {b mb b2 m2 : Nat} {P Q : Po} {L : List En} {pg : Int} {q k : Nat}
/-- The frames of an array. -/
def frsC (S : Nat → Fr) : Nat → List Value
  | 0 => []
  | n + 1 => frsC S n ++ (S n).C
theorem frsC_len (S : Nat → Fr) : ∀ n, (frsC S n).length = n * 102
  | 0 => rfl
  | n + 1 => by rw [frsC, List.length_append, frsC_len S n, Fr.len]; omega
theorem frsC_same {S R : Nat → Fr} : ∀ n, (∀ i, i < n → S i = R i) → frsC S n = frsC R n
  | 0, _ => rfl
  | n + 1, h => by rw [frsC, frsC, frsC_same n (fun i hi => h i (by omega)), h n (by omega)]
theorem frsC_split (S : Nat → Fr) (i : Nat) : ∀ n, i < n → ∃ post, ∀ x, frsC (upd S i x) n = frsC S i ++ x.C ++ post := by
  intro n
  induction n with
  | zero => intro h; omega
  | succ n ih =>
    intro h
    by_cases hi : i = n
    · subst hi
      refine ⟨[], fun x => ?_⟩
      rw [frsC, upd_same, List.append_nil, frsC_same i (fun j hj => upd_ne S x (by omega))]
    · obtain ⟨post, hp⟩ := ih (by omega)
      refine ⟨post ++ (S n).C, fun x => ?_⟩
      rw [frsC, hp x, upd_ne S x (by omega), List.append_assoc]
theorem updF_self (S : Nat → Fr) (i : Nat) : upd S i (S i) = S := by
  funext j
  unfold upd
  split
  · rename_i h; rw [h]
  · rfl
theorem frsC_at (S : Nat → Fr) (n i j : Nat) (hi : i < n) (hj : j < 102) : (frsC S n)[i * 102 + j]? = (S i).C[j]? := by
  obtain ⟨p2, hp⟩ := frsC_split S i n hi
  have e := hp (S i)
  rw [updF_self] at e
  rw [e, List.append_assoc, List.getElem?_append_right (by rw [frsC_len]; omega), frsC_len, List.getElem?_append_left (by rw [Fr.len]; omega)]
  congr 1
  omega
theorem frsC_set (S : Nat → Fr) (n i j : Nat) (hi : i < n) (hj : j < 102) (v : Value) (x : Fr) (hx : (S i).C.set j v = x.C) : (frsC S n).set (i * 102 + j) v = frsC (upd S i x) n := by
  obtain ⟨p2, hp⟩ := frsC_split S i n hi
  have e := hp (S i)
  rw [updF_self] at e
  rw [e, hp x, ← hx, List.append_assoc, List.append_assoc, List.set_append_right _ _ (by rw [frsC_len]; omega), frsC_len, List.set_append_left _ _ (by rw [Fr.len]; omega)]
  congr 3
  omega
theorem frsC_put {w : World} {b T : Nat} {S : Nat → Fr} {n i : Nat} (h : Blk w b T (frsC S n)) (hi : i < n) (x : Fr) : Blk (w.setCells b (i * 102) x.C) b T (frsC (upd S i x) n) := by
  obtain ⟨p2, hp⟩ := frsC_split S i n hi
  have e := hp (S i)
  rw [updF_self] at e
  rw [e] at h
  rw [hp x]
  exact h.part (frsC_len _ _) (by rw [Fr.len, Fr.len])
theorem frsC_R {w : World} {b T : Nat} {S : Nat → Fr} {n i : Nat} (h : Blk w b T (frsC S n)) (hi : i < n) : w.rangeAt b (i * 102) (S i).C := h.rangeIn _ (fun j hj => by
  rw [Fr.len] at hj
  rw [frsC_at S n i j hi hj])
/-- Two pools lie apart. -/
structure Apt (b mb b2 m2 : Nat) : Prop where
  x : b ≠ b2 ∧ b ≠ m2 ∧ mb ≠ b2 ∧ mb ≠ m2
theorem Apt.symm (h : Apt b mb b2 m2) : Apt b2 m2 b mb := ⟨fun e => h.x.1 e.symm, fun e => h.x.2.2.1 e.symm, fun e => h.x.2.1 e.symm, fun e => h.x.2.2.2 e.symm⟩
theorem On.apt (k : On w0 W b2 m2 Q) (h1 : W.heap.size ≤ b) (h2 : W.heap.size ≤ mb) : Apt b mb b2 m2 := by
  have := k.lt
  exact ⟨by omega, by omega, by omega, by omega⟩
theorem On.other (k : On w0 W b2 m2 Q) (hA : Apt b mb b2 m2) (hK : Kept [b, mb] W W') (h : On w0 W b mb P) {m' : Nat} (hm : m' = mb ∨ W.heap.size ≤ m') : On w0 W' b2 m2 Q ∧ Apt b m' b2 m2 := by
  have hx := hA.x
  have hl := k.lt
  refine ⟨k.step hK (by simp; exact ⟨fun e => hx.1 e.symm, fun e => hx.2.2.1 e.symm⟩) (by simp; exact ⟨fun e => hx.2.1 e.symm, fun e => hx.2.2.2 e.symm⟩) (by simp; exact ⟨h.b0, h.m0⟩), ?_⟩
  rcases hm with rfl | hm
  · exact hA
  · exact ⟨hx.1, hx.2.1, by omega, by omega⟩
/-- The frame of the law. -/
def fN (p : Int) : Fr := ⟨15, 2, 4611686018427387904, 2147483647, p, zb, rfl, true⟩
def bN : List Int := 1 :: List.replicate 95 0
def fA (i : Nat) : Fr := if i = 0 then ⟨15, 0, 4611686018427387904, 2147483647, 2147483647, zb, rfl, true⟩
  else if i = 1 then ⟨15, 3, 4611686018427387904, 2147483647, 2147483647, zb, rfl, true⟩
  else if i = 2 then ⟨15, 2, 4611686018427387905, 2147483647, 2147483647, zb, rfl, true⟩
  else if i = 3 then ⟨15, 2, 4611686018427387904, 2147483648, 2147483647, zb, rfl, true⟩
  else if i = 4 then ⟨15, 2, 4611686018427387904, 2147483647, 2147483648, zb, rfl, true⟩
  else ⟨15, 2, 4611686018427387904, 2147483647, 0, bN, rfl, true⟩
theorem fa_0 : mayF (fA 0) = false := by kernel_rfl
theorem fa_1 : mayF (fA 1) = false := by kernel_rfl
theorem fa_2 : mayF (fA 2) = false := by kernel_rfl
theorem fa_3 : mayF (fA 3) = false := by kernel_rfl
theorem fa_4 : mayF (fA 4) = false := by kernel_rfl
theorem fa_5 : mayF (fA 5) = false := by kernel_rfl
theorem fA_no (i : Nat) (h : i < 6) : mayF (fA i) = false := by
  match i, h with
  | 0, _ => exact fa_0
  | 1, _ => exact fa_1
  | 2, _ => exact fa_2
  | 3, _ => exact fa_3
  | 4, _ => exact fa_4
  | 5, _ => exact fa_5
theorem fN_yes : mayF (fN 2147483647) = true := by kernel_rfl
theorem build39N (w : World) : (Instr.build 39 #[(0, .int .i64 15), (1, .int .i64 2), (2, .int .i64 4611686018427387904), (3, .int .i64 2147483647), (5, .bool true)]).run Try.prog w = .ok (aggV (fN 0).C) w := by kernel_rfl
theorem wpBldN {ops : Array Oper} {rest : List Oper} {op : Oper} {a : Act} {w : World} {Q : Exit → Act → World → Prop} (hgd : op.guard = none) (ho : op.op = .build 39 #[(0, .const (.int .i64 15)), (1, .const (.int .i64 2)), (2, .const (.int .i64 4611686018427387904)), (3, .const (.int .i64 2147483647)), (5, .const (.bool true))]) (h : wpList Try.prog ops Q rest (a.put op.dst (aggV (fN 0).C)) w) : wpList Try.prog ops Q (op :: rest) a w :=
  wpList_plain hgd fun _ hK => wp_buildP _ ho #[(0, .int .i64 15), (1, .int .i64 2), (2, .int .i64 4611686018427387904), (3, .int .i64 2147483647), (5, .bool true)] (by kernel_rfl) (fN 0).C (build39N w) (hK _ _ h)
theorem zero58 (w : World) : (Instr.alloc 58 true (.tuple #[])).run Try.prog w = .ok (P0 w.heap.size) (w.alloc (.cells (frsC (fun _ => fr0) 6).toArray 58)) := by kernel_rfl
theorem wpAlloc58 {ops : Array Oper} {rest : List Oper} {op : Oper} {a : Act} {w : World} {Q : Exit → Act → World → Prop} (a0 : List Value) (hz : ∀ w : World, (Instr.alloc 58 true (.tuple #[])).run Try.prog w = .ok (P0 w.heap.size) (w.alloc (.cells a0.toArray 58))) (d : Nat) (hd : op.dst = some d) (hgd : op.guard = none) (ho : op.op = .alloc 58)
    (h : ∀ W g, g = w.heap.size → Blk W g 58 a0 → Kept [] w W → wpList Try.prog ops Q rest (a.put op.dst (P0 g)) W) : wpList Try.prog ops Q (op :: rest) a w :=
  wpAllocV a0 hz d hd hgd ho (fun W hW => by subst hW; exact h _ _ rfl (Blk.new w 58 _) ((Kept.refl _ _).alloc _))
theorem size5 : (Try.prog.info? 5).map (·.size) = some 1 := by kernel_rfl
theorem on_bad (h : On w0 W b mb P) (x : Fr) (hx : mayF x = false) : Calls Try.prog 19 #[P0 b, aggV x.C] W (OC w0 W b mb P (.int .i64 2)) := by
  have h9 := on_set h x
  unfold setP at h9
  rw [if_neg (by rw [hx]; simp)] at h9
  exact h9
def p16 : Po := (po0 16).up 0 ⟨fN 2147483647, 0, true⟩
theorem on_p16a (h : On w0 W b mb (po0 16)) : Calls Try.prog 19 #[P0 b, aggV (fN 2147483647).C] W (OC w0 W b mb p16 (.int .i64 0)) := by
  have h9 := on_set h (fN 2147483647)
  have e : setP (po0 16) (fN 2147483647) = (p16, 0) := by kernel_rfl
  rw [e] at h9
  exact h9
theorem on_p16b (h : On w0 W b mb p16) : Calls Try.prog 19 #[P0 b, aggV (fN 2147483647).C] W (OC w0 W b mb p16 (.int .i64 0)) := by
  have h9 := on_set h (fN 2147483647)
  have e : setP p16 (fN 2147483647) = (p16.up 0 ⟨fN 2147483647, 0, true⟩, 0) := by kernel_rfl
  have e2 : p16.up 0 ⟨fN 2147483647, 0, true⟩ = p16 := by
    show Po.mk _ _ _ = Po.mk _ _ _
    congr 1
    funext j
    show (if j = 0 then _ else (if j = 0 then _ else _)) = (if j = 0 then _ else _)
    split <;> rfl
  rw [e, e2] at h9
  exact h9
theorem len_p16 (h : On w0 W b mb p16) : Calls Try.prog 24 #[P0 b] W fun e w' => e = .returned (.int .i64 1) ∧ w' = W := by
  have h9 := on_len h
  rw [show (cntB p16.S p16.m : Int) = 1 from by kernel_rfl] at h9
  exact h9
theorem kq_pin (h : On w0 W b mb (k2 0 ⟨frS 1, 0, true⟩ pl0)) : Calls Try.prog 21 #[P0 b, .int .i64 1] W (OC w0 W b mb (k2 0 ⟨frS 1, 1, true⟩ pl0) (.int .i64 0)) := (on_pin h 1 (fun i => by show (if i = 0 then _ else if i = 1 then _ else pl0 : Pl).pn ≤ _; split; decide; split <;> decide)).mono (fun e W' h9 => h9.k2 (by kernel_rfl) (by kernel_rfl) (by kernel_rfl) (by kernel_rfl) (by kernel_rfl))
theorem kq_drop (h : On w0 W b mb (k2 0 ⟨frS 1, 1, true⟩ pl0)) (fc : List Value) (hf : fc = (frS 1).C) : Calls Try.prog 22 #[P0 b, .int .i64 1] W (OC w0 W b mb (k2 0 pl0 pl0) (.tuple #[aggV fc, .int .i64 0])) := by
  rw [hf]
  exact (on_drop h 1).mono (fun e W' h9 => h9.k2 (by kernel_rfl) (by kernel_rfl) (by kernel_rfl) (by kernel_rfl) (by kernel_rfl))
theorem kq_same {R S : Po} {c mc : Nat} (h : On w0 W b mb R) (k : On w0 W c mc S) (r : Bool) (hr : sameP R S = r) : Calls Try.prog 13 #[P0 b, P0 c] W fun e w' => e = .returned (.bool r) ∧ Kept [] W w' := by
  have h9 := on_same h k
  rw [hr] at h9
  exact h9
theorem on_pz {u : Value} (h : On w0 W b mb P) (k : Nil W u) : Calls Try.prog 13 #[P0 b, u] W fun e w' => e = .returned (.bool false) ∧ w' = W := by
  obtain ⟨L, hp⟩ := h.pg
  exact same13_pz u hp k
theorem build70z (w : World) : (Instr.build 70 #[]).run Try.prog w = .ok (aggV (Po.C ⟨0, 0, z16⟩ (.map none))) w := by kernel_rfl
theorem wpBoxW {ops : Array Oper} {rest : List Oper} {op : Oper} {a : Act} {w : World} {Q : Exit → Act → World → Prop} {T : Nat} (hw : Region.wanted op (yielded ops a.tmps) = true) (x : Operand) (ho : op.op = .box T x) (vs : List Value) (hx : a.eval x = aggV vs)
    (h : ∀ W b, b = w.heap.size → Blk W b T vs → Kept [] w W → wpList Try.prog ops Q rest (a.put op.dst (P0 b)) W) : wpList Try.prog ops Q (op :: rest) a w :=
  BigFrame.wpList_want hw fun _ hK => by
    unfold Oper.wp execOp
    simp only [ho, hx, aggV]
    exact hK _ _ (h _ _ rfl (Blk.new w T vs) ((Kept.refl _ _).alloc _))
/-- Two Set in one region. -/
structure S19 (w0 : World) (b g : Nat) (fc : List Value) (Pa Pb : Po) (k : Nat) (d : Nat → Bool) (_vs : Nat → Value) (W : World) : Prop where
  f : Blk W g 39 fc
  n1 : d k = false → ∃ m, On w0 W b m Pa
  n2 : d k = true → ∃ m, On w0 W b m Pb
theorem S19.loc {w0 : World} {b g : Nat} {fc : List Value} {Pa Pb : Po} {k : Nat} : ∀ d d' vs vs' W, (∀ i ∈ [k], d i = d' i ∧ vs i = vs' i) → S19 w0 b g fc Pa Pb k d vs W → S19 w0 b g fc Pa Pb k d' vs' W := by
  intro d d' vs vs' W H h
  have h1 := (H k (by simp)).1
  exact ⟨h.f, by rw [← h1]; exact h.n1, by rw [← h1]; exact h.n2⟩
theorem cg19' (vs : Array Value) (w : World) : (callFunc 19 vs).run Try.prog w = .ok (.enter 19 vs) w := by kernel_rfl
set_option maxHeartbeats 8000000 in
theorem nil6 (w : World) : Calls Try.prog 6 #[] w fun e w' => e = .returned (.bool true) ∧ Kept [] w w' := by
  obtain ⟨fc1, hfc1⟩ : ∃ c, c = (frS 1).C := ⟨_, rfl⟩
  have HF1 : Hid (∀ W, Calls Try.prog 20 #[.int .i64 1] W fun e w' => e = .returned (aggV fc1) ∧ Kept [] W w') := fun W => by rw [hfc1]; exact frame20 1 W
  have HC1 := hide hfc1
  clear hfc1
  obtain ⟨fc2, hfc2⟩ : ∃ c, c = (frS 2).C := ⟨_, rfl⟩
  have HF2 : Hid (∀ W, Calls Try.prog 20 #[.int .i64 2] W fun e w' => e = .returned (aggV fc2) ∧ Kept [] W w') := fun W => by rw [hfc2]; exact frame20 2 W
  have HC2 := hide hfc2
  clear hfc2
  obtain ⟨z1, hz1⟩ : ∃ c, c = fr0.C := ⟨_, rfl⟩
  have HZ39 : Hid (∀ w : World, (Instr.alloc 39 true (.tuple #[])).run Try.prog w = .ok (P0 w.heap.size) (w.alloc (.cells z1.toArray 39))) := fun w => by rw [hz1]; exact zero39 w
  have HLZ : Hid (z1.length = 102) := by show _ = _; rw [hz1, Fr.len]
  obtain ⟨n0, hn0⟩ : ∃ c, c = (fN 0).C := ⟨_, rfl⟩
  have HN0 : Hid (n0.length = 102 ∧ ∀ v ∈ n0, v.oneCell' = true) := by rw [hn0]; exact ⟨Fr.len _, Fr.one _⟩
  obtain ⟨fn, hfn⟩ : ∃ c, c = (fN 2147483647).C := ⟨_, rfl⟩
  have HFN : Hid (fn.length = 102 ∧ ∀ v ∈ fn, v.oneCell' = true) := by rw [hfn]; exact ⟨Fr.len _, Fr.one _⟩
  have HST : Hid (n0.set 4 (.int .i64 2147483647) = fn) := by show _ = _; rw [hn0, hfn]; rfl
  have HFE := hide hfn
  have HNE := hide hn0
  obtain ⟨F0, hF0⟩ : ∃ F : Nat → Fr, F = fun _ => fr0 := ⟨_, rfl⟩
  obtain ⟨a0, ha0⟩ : ∃ c, c = frsC F0 6 := ⟨_, rfl⟩
  have HZ58 : Hid (∀ w : World, (Instr.alloc 58 true (.tuple #[])).run Try.prog w = .ok (P0 w.heap.size) (w.alloc (.cells a0.toArray 58))) := fun w => by rw [ha0, hF0]; exact zero58 w
  have HA0 := hide ha0
  clear hz1 hn0 hfn hF0 ha0
  go_enter Try.func6, Try.ntmps6
  go_wp2_with (
    first
    | (refine wpBldN rfl rfl ?_
       rw [← unhide HNE]
       refine Stp.go ?_))
  constructor
  go_wp2_with (
    first
    | (refine wpNew row39 z1 (unhide HLZ) (unhide HZ39) 1 rfl rfl rfl (.tmp 16) rfl rfl rfl n0 (unhide HN0).1 (unhide HN0).2 (by kernel_rfl) (by kernel_rfl) ?_
       intro W1 g1 e1 B1 K1
       have HG := hide B1
       have HG1 : Hid (w.heap.size ≤ g1) := by show _ ≤ _; omega
       have HK := hide K1
       clear e1 B1 K1
       refine Stp.go ?_))
  constructor
  go_wp2_with (
    first
    | (refine wpStoreV1 size2 rfl (.tmp 18) (.const (.int .i64 2147483647)) rfl rfl g1 4 (.int .i64 2147483647) ⟨rfl, rfl⟩ rfl rfl (unhide HG) (by have := (unhide HN0).1; omega) ?_
       intro W2 B2 K2
       replace HG : Hid (Blk W2 g1 39 fn) := by rw [← unhide HST]; exact B2
       replace HK := hide ((unhide HK).own K2 (by simp; exact unhide HG1))
       clear B2 K2
       refine Stp.go ?_))
  constructor
  go_wp2_with (
    first
    | (refine wpAlloc58 a0 (unhide HZ58) 2 rfl rfl rfl ?_
       intro W3 ga e3 B3 K3
       have HA : Hid (Blk W3 ga 58 (frsC F0 6)) := by rw [← unhide HA0]; exact B3
       have HGA : Hid (w.heap.size ≤ ga) := by have := (unhide HK).size; show _ ≤ _; omega
       have HGG : Hid (g1 ≠ ga) := by have := (unhide HG).lt; show _ ≠ _; omega
       replace HG := hide ((unhide HG).kept K3 (by simp))
       replace HK := hide ((unhide HK).trans K3)
       clear e3 B3 K3 HA0 HZ58
       refine Stp.go ?_))
  constructor
  go_wp2_with fail
  go_loopw [3] (fun xi wr => ∃ (k : Nat) (F : Nat → Fr), k ≤ 6 ∧ xi = .int .i64 k ∧ Hid (∀ i, i < k → F i = fN 2147483647) ∧ Hid (Blk wr ga 58 (frsC F 6)) ∧ Hid (Blk wr g1 39 fn) ∧ Hid (Kept [] w wr)) (fun xi _ => 6 - (intOf xi).toNat)
  case atStart => exact ⟨0, F0, by omega, rfl, fun i hi => by omega, HA, HG, HK⟩
  case round =>
    clear HA HG HK
    obtain ⟨k, F, hk, rfl, HI, HA, HG, HK⟩ := hrel
    by_cases hlt : k < 6
    · have hd : decide ((k : Int) < 6) = true := by simp; omega
      have hkI : (k : Int) < 6 := by omega
      obtain ⟨ac, hac⟩ : ∃ c, c = frsC F 6 := ⟨_, rfl⟩
      have HAL : Hid (ac.length = 612) := by show _ = _; rw [hac, frsC_len]
      have HAB : Hid (Blk wr ga 58 ac) := by rw [hac]; exact unhide HA
      obtain ⟨ad, had⟩ : ∃ c, c = frsC (upd F k (fN 2147483647)) 6 := ⟨_, rfl⟩
      have HAP : Hid (∀ W, Blk W ga 58 ac → Blk (W.setCells ga (k * 102) fn) ga 58 ad) := fun W hB => by rw [hac] at hB; rw [had, unhide HFE]; exact frsC_put hB hlt _
      have HAD := hide had
      clear hac had
      go_wp2_with (
        first
        | (refine wpLoadA row39 rfl (.tmp 1) rfl g1 0 rfl fn (unhide HFN).1 (unhide HG).range ?_
           refine Stp.go ?_))
      constructor
      go_wp2_with (
        first
        | (refine wpStN row39 rfl (.tmp 25) (.tmp 24) rfl rfl ga (k * 102) 0 fn rfl rfl (unhide HFN).1 (unhide HFN).2 (Mm.ini (X := [ga]) (unhide HAB) (by simp)) rfl (by have := unhide HAL; show k * 102 + 102 ≤ ac.length; omega) (unhide HAP) ?_
           intro W7 M7
           have HA9 := hide (M7.at 0 _ rfl)
           replace HG := hide ((unhide HG).kept M7.kept (by simp; exact unhide HGG))
           replace HK := hide ((unhide HK).own M7.kept (by simp; exact unhide HGA))
           clear M7
           refine Stp.go ?_))
      constructor
      go_wp2_with fail
      go_roundw
      case rel => exact ⟨k + 1, upd F k (fN 2147483647), by omega, by go_num, (fun i hi => by
        by_cases e : i = k
        · subst e; exact upd_same _ _ _
        · rw [upd_ne _ _ e]; exact unhide HI i (by omega)), by show Blk _ _ _ _; rw [← unhide HAD]; exact unhide HA9, HG, HK⟩
      case measure => simp [intOf]; omega
    · obtain rfl : k = 6 := by omega
      have hd : decide (((6 : Nat) : Int) < 6) = false := by decide
      replace HA : Hid (Blk wr ga 58 (frsC (fun _ => fN 2147483647) 6)) := by rw [← frsC_same 6 (fun i hi => unhide HI i hi)]; exact unhide HA
      obtain ⟨s0, hs0⟩ : ∃ c, c = frsC (fun _ => fN 2147483647) 6 := ⟨_, rfl⟩
      rw [← hs0] at HA
      have HL0 : Hid (s0.length = 612) := by show _ = _; rw [hs0, frsC_len]
      obtain ⟨s1, hs1⟩ : ∃ c, c = frsC (upd (fun _ => fN 2147483647) 0 ⟨15, 0, 4611686018427387904, 2147483647, 2147483647, zb, rfl, true⟩) 6 := ⟨_, rfl⟩
      have HS0 : Hid (s0.set 1 (.int .i64 0) = s1) := by show _ = _; rw [hs0, hs1]; exact frsC_set (fun _ => fN 2147483647) 6 0 1 (by decide) (by decide) _ _ (by rfl)
      have HL1 : Hid (s1.length = 612) := by show _ = _; rw [hs1, frsC_len]
      obtain ⟨s2, hs2⟩ : ∃ c, c = frsC (upd (upd (fun _ => fN 2147483647) 0 ⟨15, 0, 4611686018427387904, 2147483647, 2147483647, zb, rfl, true⟩) 1 ⟨15, 3, 4611686018427387904, 2147483647, 2147483647, zb, rfl, true⟩) 6 := ⟨_, rfl⟩
      have HS1 : Hid (s1.set 103 (.int .i64 3) = s2) := by show _ = _; rw [hs1, hs2]; exact frsC_set (upd (fun _ => fN 2147483647) 0 ⟨15, 0, 4611686018427387904, 2147483647, 2147483647, zb, rfl, true⟩) 6 1 1 (by decide) (by decide) _ _ (by rfl)
      have HL2 : Hid (s2.length = 612) := by show _ = _; rw [hs2, frsC_len]
      obtain ⟨s3, hs3⟩ : ∃ c, c = frsC (upd (upd (upd (fun _ => fN 2147483647) 0 ⟨15, 0, 4611686018427387904, 2147483647, 2147483647, zb, rfl, true⟩) 1 ⟨15, 3, 4611686018427387904, 2147483647, 2147483647, zb, rfl, true⟩) 2 ⟨15, 2, 4611686018427387905, 2147483647, 2147483647, zb, rfl, true⟩) 6 := ⟨_, rfl⟩
      have HS2 : Hid (s2.set 206 (.int .i64 4611686018427387905) = s3) := by show _ = _; rw [hs2, hs3]; exact frsC_set (upd (upd (fun _ => fN 2147483647) 0 ⟨15, 0, 4611686018427387904, 2147483647, 2147483647, zb, rfl, true⟩) 1 ⟨15, 3, 4611686018427387904, 2147483647, 2147483647, zb, rfl, true⟩) 6 2 2 (by decide) (by decide) _ _ (by rfl)
      have HL3 : Hid (s3.length = 612) := by show _ = _; rw [hs3, frsC_len]
      obtain ⟨s4, hs4⟩ : ∃ c, c = frsC (upd (upd (upd (upd (fun _ => fN 2147483647) 0 ⟨15, 0, 4611686018427387904, 2147483647, 2147483647, zb, rfl, true⟩) 1 ⟨15, 3, 4611686018427387904, 2147483647, 2147483647, zb, rfl, true⟩) 2 ⟨15, 2, 4611686018427387905, 2147483647, 2147483647, zb, rfl, true⟩) 3 ⟨15, 2, 4611686018427387904, 2147483648, 2147483647, zb, rfl, true⟩) 6 := ⟨_, rfl⟩
      have HS3 : Hid (s3.set 309 (.int .i64 2147483648) = s4) := by show _ = _; rw [hs3, hs4]; exact frsC_set (upd (upd (upd (fun _ => fN 2147483647) 0 ⟨15, 0, 4611686018427387904, 2147483647, 2147483647, zb, rfl, true⟩) 1 ⟨15, 3, 4611686018427387904, 2147483647, 2147483647, zb, rfl, true⟩) 2 ⟨15, 2, 4611686018427387905, 2147483647, 2147483647, zb, rfl, true⟩) 6 3 3 (by decide) (by decide) _ _ (by rfl)
      have HL4 : Hid (s4.length = 612) := by show _ = _; rw [hs4, frsC_len]
      obtain ⟨s5, hs5⟩ : ∃ c, c = frsC (upd (upd (upd (upd (upd (fun _ => fN 2147483647) 0 ⟨15, 0, 4611686018427387904, 2147483647, 2147483647, zb, rfl, true⟩) 1 ⟨15, 3, 4611686018427387904, 2147483647, 2147483647, zb, rfl, true⟩) 2 ⟨15, 2, 4611686018427387905, 2147483647, 2147483647, zb, rfl, true⟩) 3 ⟨15, 2, 4611686018427387904, 2147483648, 2147483647, zb, rfl, true⟩) 4 ⟨15, 2, 4611686018427387904, 2147483647, 2147483648, zb, rfl, true⟩) 6 := ⟨_, rfl⟩
      have HS4 : Hid (s4.set 412 (.int .i64 2147483648) = s5) := by show _ = _; rw [hs4, hs5]; exact frsC_set (upd (upd (upd (upd (fun _ => fN 2147483647) 0 ⟨15, 0, 4611686018427387904, 2147483647, 2147483647, zb, rfl, true⟩) 1 ⟨15, 3, 4611686018427387904, 2147483647, 2147483647, zb, rfl, true⟩) 2 ⟨15, 2, 4611686018427387905, 2147483647, 2147483647, zb, rfl, true⟩) 3 ⟨15, 2, 4611686018427387904, 2147483648, 2147483647, zb, rfl, true⟩) 6 4 4 (by decide) (by decide) _ _ (by rfl)
      have HL5 : Hid (s5.length = 612) := by show _ = _; rw [hs5, frsC_len]
      obtain ⟨s6, hs6⟩ : ∃ c, c = frsC (upd (upd (upd (upd (upd (upd (fun _ => fN 2147483647) 0 ⟨15, 0, 4611686018427387904, 2147483647, 2147483647, zb, rfl, true⟩) 1 ⟨15, 3, 4611686018427387904, 2147483647, 2147483647, zb, rfl, true⟩) 2 ⟨15, 2, 4611686018427387905, 2147483647, 2147483647, zb, rfl, true⟩) 3 ⟨15, 2, 4611686018427387904, 2147483648, 2147483647, zb, rfl, true⟩) 4 ⟨15, 2, 4611686018427387904, 2147483647, 2147483648, zb, rfl, true⟩) 5 ⟨15, 2, 4611686018427387904, 2147483647, 0, zb, rfl, true⟩) 6 := ⟨_, rfl⟩
      have HS5 : Hid (s5.set 514 (.int .i64 0) = s6) := by show _ = _; rw [hs5, hs6]; exact frsC_set (upd (upd (upd (upd (upd (fun _ => fN 2147483647) 0 ⟨15, 0, 4611686018427387904, 2147483647, 2147483647, zb, rfl, true⟩) 1 ⟨15, 3, 4611686018427387904, 2147483647, 2147483647, zb, rfl, true⟩) 2 ⟨15, 2, 4611686018427387905, 2147483647, 2147483647, zb, rfl, true⟩) 3 ⟨15, 2, 4611686018427387904, 2147483648, 2147483647, zb, rfl, true⟩) 4 ⟨15, 2, 4611686018427387904, 2147483647, 2147483648, zb, rfl, true⟩) 6 5 4 (by decide) (by decide) _ _ (by rfl)
      have HL6 : Hid (s6.length = 612) := by show _ = _; rw [hs6, frsC_len]
      obtain ⟨s7, hs7⟩ : ∃ c, c = frsC (upd (upd (upd (upd (upd (upd (upd (fun _ => fN 2147483647) 0 ⟨15, 0, 4611686018427387904, 2147483647, 2147483647, zb, rfl, true⟩) 1 ⟨15, 3, 4611686018427387904, 2147483647, 2147483647, zb, rfl, true⟩) 2 ⟨15, 2, 4611686018427387905, 2147483647, 2147483647, zb, rfl, true⟩) 3 ⟨15, 2, 4611686018427387904, 2147483648, 2147483647, zb, rfl, true⟩) 4 ⟨15, 2, 4611686018427387904, 2147483647, 2147483648, zb, rfl, true⟩) 5 ⟨15, 2, 4611686018427387904, 2147483647, 0, zb, rfl, true⟩) 5 ⟨15, 2, 4611686018427387904, 2147483647, 0, bN, rfl, true⟩) 6 := ⟨_, rfl⟩
      have HS6 : Hid (s6.set 515 (.int .u8 1) = s7) := by show _ = _; rw [hs6, hs7]; exact frsC_set (upd (upd (upd (upd (upd (upd (fun _ => fN 2147483647) 0 ⟨15, 0, 4611686018427387904, 2147483647, 2147483647, zb, rfl, true⟩) 1 ⟨15, 3, 4611686018427387904, 2147483647, 2147483647, zb, rfl, true⟩) 2 ⟨15, 2, 4611686018427387905, 2147483647, 2147483647, zb, rfl, true⟩) 3 ⟨15, 2, 4611686018427387904, 2147483648, 2147483647, zb, rfl, true⟩) 4 ⟨15, 2, 4611686018427387904, 2147483647, 2147483648, zb, rfl, true⟩) 5 ⟨15, 2, 4611686018427387904, 2147483647, 0, zb, rfl, true⟩) 6 5 5 (by decide) (by decide) _ _ (by rfl)
      have HL7 : Hid (s7.length = 612) := by show _ = _; rw [hs7, frsC_len]
      have HSE : Hid (s7 = frsC fA 6) := by
        show _ = _
        rw [hs7]
        refine frsC_same 6 (fun i hi => ?_)
        match i, hi with
        | 0, _ => rfl
        | 1, _ => rfl
        | 2, _ => rfl
        | 3, _ => rfl
        | 4, _ => rfl
        | 5, _ => rfl
      have HV2 : Hid (∀ W, Blk W ga 58 s2 → W.cell? ⟨ga, 206, none⟩ = some (.int .i64 4611686018427387904)) := fun W hB => by rw [hs2] at hB; exact fits_cell hB (2 * 102 + 2) _ (by rw [frsC_at _ 6 2 2 (by decide) (by decide)]; rfl)
      have HV3 : Hid (∀ W, Blk W ga 58 s3 → W.cell? ⟨ga, 309, none⟩ = some (.int .i64 2147483647)) := fun W hB => by rw [hs3] at hB; exact fits_cell hB (3 * 102 + 3) _ (by rw [frsC_at _ 6 3 3 (by decide) (by decide)]; rfl)
      have HV4 : Hid (∀ W, Blk W ga 58 s4 → W.cell? ⟨ga, 412, none⟩ = some (.int .i64 2147483647)) := fun W hB => by rw [hs4] at hB; exact fits_cell hB (4 * 102 + 4) _ (by rw [frsC_at _ 6 4 4 (by decide) (by decide)]; rfl)
      clear hs0 hs1 hs2 hs3 hs4 hs5 hs6 hs7
      go_wp2_with (
        first
        | (refine wpStoreV1 size33 rfl (.tmp 27) (.const (.int .i64 0)) rfl rfl ga 1 (.int .i64 0) ⟨rfl, rfl⟩ rfl rfl (unhide HA) (by have := unhide HL0; omega) ?_
           intro X0 B9 K9
           replace HA : Hid (Blk X0 ga 58 s1) := by rw [← unhide HS0]; exact B9
           replace HG := hide ((unhide HG).kept K9 (by simp; exact unhide HGG))
           replace HK := hide ((unhide HK).own K9 (by simp; exact unhide HGA))
           clear B9 K9
           refine Stp.go ?_))
      constructor
      go_wp2_with (
        first
        | (refine wpStoreV1 size33 rfl (.tmp 29) (.const (.int .i64 3)) rfl rfl ga 103 (.int .i64 3) ⟨rfl, rfl⟩ rfl rfl (unhide HA) (by have := unhide HL1; omega) ?_
           intro X1 B9 K9
           replace HA : Hid (Blk X1 ga 58 s2) := by rw [← unhide HS1]; exact B9
           replace HG := hide ((unhide HG).kept K9 (by simp; exact unhide HGG))
           replace HK := hide ((unhide HK).own K9 (by simp; exact unhide HGA))
           clear B9 K9
           refine Stp.go ?_))
      constructor
      have cc2 := unhide HV2 _ (unhide HA)
      go_wp2_with (
        first
        | (refine wpStoreV1 size2 rfl (.tmp 35) (.tmp 33) rfl rfl ga 206 (.int .i64 4611686018427387905) ⟨rfl, rfl⟩ rfl rfl (unhide HA) (by have := unhide HL2; omega) ?_
           intro X2 B9 K9
           replace HA : Hid (Blk X2 ga 58 s3) := by rw [← unhide HS2]; exact B9
           replace HG := hide ((unhide HG).kept K9 (by simp; exact unhide HGG))
           replace HK := hide ((unhide HK).own K9 (by simp; exact unhide HGA))
           clear B9 K9
           refine Stp.go ?_))
      constructor
      clear cc2
      have cc3 := unhide HV3 _ (unhide HA)
      go_wp2_with (
        first
        | (refine wpStoreV1 size2 rfl (.tmp 41) (.tmp 39) rfl rfl ga 309 (.int .i64 2147483648) ⟨rfl, rfl⟩ rfl rfl (unhide HA) (by have := unhide HL3; omega) ?_
           intro X3 B9 K9
           replace HA : Hid (Blk X3 ga 58 s4) := by rw [← unhide HS3]; exact B9
           replace HG := hide ((unhide HG).kept K9 (by simp; exact unhide HGG))
           replace HK := hide ((unhide HK).own K9 (by simp; exact unhide HGA))
           clear B9 K9
           refine Stp.go ?_))
      constructor
      clear cc3
      have cc4 := unhide HV4 _ (unhide HA)
      go_wp2_with (
        first
        | (refine wpStoreV1 size2 rfl (.tmp 49) (.tmp 46) rfl rfl ga 412 (.int .i64 2147483648) ⟨rfl, rfl⟩ rfl rfl (unhide HA) (by have := unhide HL4; omega) ?_
           intro X4 B9 K9
           replace HA : Hid (Blk X4 ga 58 s5) := by rw [← unhide HS4]; exact B9
           replace HG := hide ((unhide HG).kept K9 (by simp; exact unhide HGG))
           replace HK := hide ((unhide HK).own K9 (by simp; exact unhide HGA))
           clear B9 K9
           refine Stp.go ?_))
      constructor
      clear cc4
      go_wp2_with (
        first
        | (refine wpStoreV1 size2 rfl (.tmp 52) (.const (.int .i64 0)) rfl rfl ga 514 (.int .i64 0) ⟨rfl, rfl⟩ rfl rfl (unhide HA) (by have := unhide HL5; omega) ?_
           intro X5 B9 K9
           replace HA : Hid (Blk X5 ga 58 s6) := by rw [← unhide HS5]; exact B9
           replace HG := hide ((unhide HG).kept K9 (by simp; exact unhide HGG))
           replace HK := hide ((unhide HK).own K9 (by simp; exact unhide HGA))
           clear B9 K9
           refine Stp.go ?_))
      constructor
      go_wp2_with (
        first
        | (refine wpStoreV1 size5 rfl (.tmp 56) (.const (.int .u8 1)) rfl rfl ga 515 (.int .u8 1) ⟨rfl, rfl⟩ rfl rfl (unhide HA) (by have := unhide HL6; omega) ?_
           intro X6 B9 K9
           replace HA : Hid (Blk X6 ga 58 s7) := by rw [← unhide HS6]; exact B9
           replace HG := hide ((unhide HG).kept K9 (by simp; exact unhide HGG))
           replace HK := hide ((unhide HK).own K9 (by simp; exact unhide HGA))
           clear B9 K9
           refine Stp.go ?_))
      constructor
      go_wp2_with (
        first
        | (go_at_call 7
           refine (on_new 16 (unhide HK) (by decide)).mono ?_
           rintro e W9 ⟨bp, mp, rfl, hb9, hm9, hn9, k9⟩
           have HP := hide hn9
           have HFAR : Hid (ga ≠ bp ∧ g1 ≠ bp) := by have h1 := (unhide HA).lt; have h2 := (unhide HG).lt; show _ ∧ _; constructor <;> omega
           replace HA : Hid (Blk W9 ga 58 s7) := (unhide HA).kept k9 (by simp)
           replace HG := hide ((unhide HG).kept k9 (by simp))
           clear hb9 hm9 hn9 k9 HK
           refine Stp.go ?_))
      constructor
      go_wp2_with fail
      go_loopw [6] (fun xi wr => ∃ (k mp : Nat), k ≤ 6 ∧ xi = .int .i64 k ∧ Hid (On w wr bp mp (po0 16)) ∧ Hid (Blk wr ga 58 s7) ∧ Hid (Blk wr g1 39 fn)) (fun xi _ => 6 - (intOf xi).toNat)
      case atStart => exact ⟨0, mp, by omega, rfl, HP, HA, HG⟩
      case round =>
        clear HP HA HG
        obtain ⟨k, mp, hk, rfl, HP, HA, HG⟩ := hrel
        by_cases hlt : k < 6
        · have hd : decide ((k : Int) < 6) = true := by simp; omega
          have hkI : (k : Int) < 6 := by omega
          obtain ⟨fk, hfk⟩ : ∃ c, c = (fA k).C := ⟨_, rfl⟩
          have HFK : Hid (fk.length = 102) := by show _ = _; rw [hfk, Fr.len]
          have HFR : Hid (wr.rangeAt ga (k * 102) fk) := by have h9 := unhide HA; rw [unhide HSE] at h9; rw [hfk]; exact frsC_R h9 hlt
          have P19 : Hid (Calls Try.prog 19 #[P0 bp, aggV fk] wr (OC w wr bp mp (po0 16) (.int .i64 2))) := by rw [hfk]; exact on_bad (unhide HP) (fA k) (fA_no k hlt)
          clear hfk
          go_wp2_with (
            first
            | (refine wpLoadA row39 rfl (.tmp 67) rfl ga (k * 102) rfl fk (unhide HFK) (unhide HFR) ?_
               refine Stp.go ?_))
          constructor
          go_wp2_with (
            first
            | (go_at_call 19
               refine (unhide P19).mono ?_
               rintro e W8 ⟨mp9, rfl, hn9, k9, _⟩
               replace HA : Hid (Blk W8 ga 58 s7) := (unhide HA).kept k9 ((unhide HP).far (unhide HA) (by decide))
               replace HG := hide ((unhide HG).kept k9 ((unhide HP).far (unhide HG) (by decide)))
               replace HP := hide hn9
               clear hn9 k9
               refine Stp.go ?_))
          constructor
          go_wp2_with (
            first
            | (go_at_call 9
               refine (num9 _ _).mono ?_
               rintro e W9 ⟨rfl, q9⟩
               replace q9 := q9.symm
               subst q9))
          go_roundw
          case rel => exact ⟨k + 1, mp9, by omega, by go_num, HP, HA, HG⟩
          case measure => simp [intOf]; omega
        · obtain rfl : k = 6 := by omega
          have hd : decide (((6 : Nat) : Int) < 6) = false := by decide
          clear HA HSE
          go_wp2_with fail
          refine wp_region_any mixed (wpAny_gx 8 rfl (by kernel_rfl) [some (P0 bp), some (aggV fn), some (.int .i64 0), some (P0 bp), some (aggV fn), some (.int .i64 0), some (.int .i64 0), some (.int .i64 0)] rfl (by kernel_rfl) (fun l vs W => (S19 w bp g1 fn (po0 16) p16 2) (fun i => l.getD i false) vs W) (⟨(unhide HG).drew, (fun _ => ⟨mp, (unhide HP).step0 (Kept.refl [] _).drew⟩), fun h => by cases h⟩) ?_ ?_)
          · intro ix o' hi ho a' w2 l vs hls hlf hJ hout hin hdep hnot
            match ix, ho with
            | 0, ho =>
              obtain rfl := Option.some.inj ho
              have e0 := hout 4 (by kernel_rfl)
              replace e0 : a'.eval (.tmp 4) = _ := e0.trans rfl
              exact wp_move (.tmp 4) rfl _ e0 ⟨_, rfl, told_of rfl, keepG (St := (S19 w bp g1 fn (po0 16) p16 2)) [2] S19.loc (by omega) (by decide) hJ⟩
            | 1, ho =>
              obtain rfl := Option.some.inj ho
              have e0 := hout 1 (by kernel_rfl)
              replace e0 : a'.eval (.tmp 1) = _ := e0.trans rfl
              exact wp_loadA row39 (.tmp 1) rfl g1 (0) e0 (fn) ((unhide HFN).1) (hJ.f.range) ⟨_, rfl, told_of rfl, keepG (St := (S19 w bp g1 fn (po0 16) p16 2)) [2] S19.loc (by omega) (by decide) hJ⟩
            | 2, ho =>
              obtain rfl := Option.some.inj ho
              have e0 : a'.eval (.tmp 72) = P0 bp := by have h9 := hin 0 72 (by kernel_rfl) (by kernel_rfl); exact h9.1.trans (told_is _ h9.2 rfl)
              have e1 : a'.eval (.tmp 73) = aggV fn := by have h9 := hin 1 73 (by kernel_rfl) (by kernel_rfl); exact h9.1.trans (told_is _ h9.2 rfl)
              obtain ⟨m9, hm9⟩ := hJ.n1 hlf
              refine wp_callF 19 _ _ rfl #[P0 bp, aggV fn] (by simp [e0, e1]) (cg19' _ _) ((show Calls Try.prog 19 #[P0 bp, aggV fn] _ (OC w _ bp m9 p16 (.int .i64 0)) from by rw [unhide HFE]; exact on_p16a hm9).mono ?_)
              rintro e w3 ⟨m3, rfl, hn9, k9, _⟩
              exact ⟨_, rfl, _, rfl, told_of rfl, nextG (St := (S19 w bp g1 fn (po0 16) p16 2)) (by omega) ⟨hJ.f.kept k9 (hm9.far hJ.f (by decide)), (fun h9 => by simp at h9), fun _ => ⟨_, hn9⟩⟩⟩
            | 3, ho =>
              obtain rfl := Option.some.inj ho
              have e0 := hout 4 (by kernel_rfl)
              replace e0 : a'.eval (.tmp 4) = _ := e0.trans rfl
              exact wp_move (.tmp 4) rfl _ e0 ⟨_, rfl, told_of rfl, keepG (St := (S19 w bp g1 fn (po0 16) p16 2)) [2] S19.loc (by omega) (by decide) hJ⟩
            | 4, ho =>
              obtain rfl := Option.some.inj ho
              have e0 := hout 1 (by kernel_rfl)
              replace e0 : a'.eval (.tmp 1) = _ := e0.trans rfl
              exact wp_loadA row39 (.tmp 1) rfl g1 (0) e0 (fn) ((unhide HFN).1) (hJ.f.range) ⟨_, rfl, told_of rfl, keepG (St := (S19 w bp g1 fn (po0 16) p16 2)) [2] S19.loc (by omega) (by decide) hJ⟩
            | 5, ho =>
              obtain rfl := Option.some.inj ho
              have e0 : a'.eval (.tmp 75) = P0 bp := by have h9 := hin 3 75 (by kernel_rfl) (by kernel_rfl); exact h9.1.trans (told_is _ h9.2 rfl)
              have e1 : a'.eval (.tmp 76) = aggV fn := by have h9 := hin 4 76 (by kernel_rfl) (by kernel_rfl); exact h9.1.trans (told_is _ h9.2 rfl)
              obtain ⟨m9, hm9⟩ := hJ.n2 (hdep 2 (by kernel_rfl))
              refine wp_callF 19 _ _ rfl #[P0 bp, aggV fn] (by simp [e0, e1]) (cg19' _ _) ((show Calls Try.prog 19 #[P0 bp, aggV fn] _ (OC w _ bp m9 p16 (.int .i64 0)) from by rw [unhide HFE]; exact on_p16b hm9).mono ?_)
              rintro e w3 ⟨m3, rfl, hn9, k9, _⟩
              exact ⟨_, rfl, _, rfl, told_of rfl, nextG (St := (S19 w bp g1 fn (po0 16) p16 2)) (by omega) ⟨hJ.f.kept k9 (hm9.far hJ.f (by decide)), (fun h9 => by have h8 := hdep 2 (by kernel_rfl); simp [h8] at h9), fun _ => ⟨_, hn9⟩⟩⟩
            | 6, ho =>
              obtain rfl := Option.some.inj ho
              have e0 : a'.eval (.tmp 74) = .int .i64 0 := by have h9 := hin 2 74 (by kernel_rfl) (by kernel_rfl); exact h9.1.trans (told_is _ h9.2 rfl)
              exact wp_assignV (.tmp 74) rfl _ e0 ⟨_, rfl, told_of rfl, keepG (St := (S19 w bp g1 fn (po0 16) p16 2)) [2] S19.loc (by omega) (by decide) hJ⟩
            | 7, ho =>
              obtain rfl := Option.some.inj ho
              have e0 : a'.eval (.tmp 77) = .int .i64 0 := by have h9 := hin 5 77 (by kernel_rfl) (by kernel_rfl); exact h9.1.trans (told_is _ h9.2 rfl)
              exact wp_assignV (.tmp 77) rfl _ e0 ⟨_, rfl, told_of rfl, keepG (St := (S19 w bp g1 fn (po0 16) p16 2)) [2] S19.loc (by omega) (by decide) hJ⟩
          intro l_ vs4 V4 hl hJ htold
          have t0 : vs4 0 = P0 bp := told_is _ (htold 0 (by decide)) rfl
          have t1 : vs4 1 = aggV fn := told_is _ (htold 1 (by decide)) rfl
          have t2 : vs4 2 = .int .i64 0 := told_is _ (htold 2 (by decide)) rfl
          have t3 : vs4 3 = P0 bp := told_is _ (htold 3 (by decide)) rfl
          have t4 : vs4 4 = aggV fn := told_is _ (htold 4 (by decide)) rfl
          have t5 : vs4 5 = .int .i64 0 := told_is _ (htold 5 (by decide)) rfl
          have t6 : vs4 6 = .int .i64 0 := told_is _ (htold 6 (by decide)) rfl
          have t7 : vs4 7 = .int .i64 0 := told_is _ (htold 7 (by decide)) rfl
          rw [show (List.range 8).map vs4 = [vs4 0, vs4 1, vs4 2, vs4 3, vs4 4, vs4 5, vs4 6, vs4 7] from rfl]
          simp only [t0, t1, t2, t3, t4, t5, t6, t7, putAll, Act.put, List.setIfInBounds_toArray, List.set_cons_succ, List.set_cons_zero]
          clear t0 t1 t2 t3 t4 t5 t6 t7 htold
          obtain ⟨mp9, hn9⟩ := hJ.n2 (hl 2 (by decide))
          obtain ⟨mp, emp⟩ : ∃ m, m = mp9 := ⟨_, rfl⟩
          rw [← emp] at hn9
          replace HP := hide hn9
          clear hn9 hJ hl HG emp mp9
          go_wp2_with (
            first
            | (go_at_call 7
               refine (new7_no 17 _ (by decide)).mono ?_
               rintro e W9 ⟨rfl, q9⟩
               replace q9 := q9.symm
               subst q9
               refine Stp.go ?_))
          constructor
          go_wp2_with (
            first
            | (go_at_call 7
               refine (ks_new (unhide HP).kept).mono ?_
               rintro e W21 ⟨ba, ma, rfl, hb9, hm9, hn9, k9⟩
               have HA := hide hn9
               have Aap : Hid (Apt ba ma bp mp) := hide ((unhide HP).apt hb9 hm9)
               replace HP := hide ((unhide HP).step0 k9)
               clear hb9 hm9 hn9 k9
               refine Stp.go ?_))
          constructor
          go_wp2_with (
            first
            | (go_at_call 7
               refine (ks_new (unhide HP).kept).mono ?_
               rintro e W22 ⟨bbb, mbb, rfl, hb9, hm9, hn9, k9⟩
               have HBB := hide hn9
               have Abbp : Hid (Apt bbb mbb bp mp) := hide ((unhide HP).apt hb9 hm9)
               replace HP := hide ((unhide HP).step0 k9)
               have Abba : Hid (Apt bbb mbb ba ma) := hide ((unhide HA).apt hb9 hm9)
               replace HA := hide ((unhide HA).step0 k9)
               clear hb9 hm9 hn9 k9
               refine Stp.go ?_))
          constructor
          have Aabb : Hid (Apt ba ma bbb mbb) := hide (unhide Abba).symm
          go_wp2_with (
            first
            | (go_at_call 20
               refine (unhide HF1 _).mono ?_
               rintro e W23 ⟨rfl, K23⟩
               replace HP := hide ((unhide HP).step0 K23)
               replace HA := hide ((unhide HA).step0 K23)
               replace HBB := hide ((unhide HBB).step0 K23)
               clear K23
               refine Stp.go ?_))
          constructor
          go_wp2_with (
            first
            | (go_at_call 19
               refine (ks1 fc1 (unhide HC1) (unhide HA)).mono ?_
               rintro e W24 ⟨m9, rfl, hn9, k9, q9⟩
               obtain ⟨op, pp⟩ := (unhide HP).other (unhide Aap) k9 (unhide HA) q9
               replace HP := hide op
               replace Aap := hide pp
               clear op pp
               obtain ⟨obb, pbb⟩ := (unhide HBB).other (unhide Aabb) k9 (unhide HA) q9
               replace HBB := hide obb
               replace Aabb := hide pbb
               clear obb pbb
               replace HA := hide hn9
               clear hn9 k9 q9
               refine Stp.go ?_))
          constructor
          go_wp2_with (
            first
            | (go_at_call 21
               refine (kq_pin (unhide HA)).mono ?_
               rintro e W25 ⟨m9, rfl, hn9, k9, q9⟩
               obtain ⟨op, pp⟩ := (unhide HP).other (unhide Aap) k9 (unhide HA) q9
               replace HP := hide op
               replace Aap := hide pp
               clear op pp
               obtain ⟨obb, pbb⟩ := (unhide HBB).other (unhide Aabb) k9 (unhide HA) q9
               replace HBB := hide obb
               replace Aabb := hide pbb
               clear obb pbb
               replace HA := hide hn9
               clear hn9 k9 q9
               refine Stp.go ?_))
          constructor
          go_wp2_with (
            first
            | (go_at_call 22
               refine (kq_drop (unhide HA) fc1 (unhide HC1)).mono ?_
               rintro e W26 ⟨m9, rfl, hn9, k9, q9⟩
               obtain ⟨op, pp⟩ := (unhide HP).other (unhide Aap) k9 (unhide HA) q9
               replace HP := hide op
               replace Aap := hide pp
               clear op pp
               obtain ⟨obb, pbb⟩ := (unhide HBB).other (unhide Aabb) k9 (unhide HA) q9
               replace HBB := hide obb
               replace Aabb := hide pbb
               clear obb pbb
               replace HA := hide hn9
               clear hn9 k9 q9
               refine Stp.go ?_))
          constructor
          go_wp2_with (
            first
            | (go_at_call 13
               refine (kq_same (unhide HA) (unhide HBB) true (by kernel_rfl)).mono ?_
               rintro e W27 ⟨rfl, K27⟩
               replace HP := hide ((unhide HP).step0 K27)
               replace HA := hide ((unhide HA).step0 K27)
               replace HBB := hide ((unhide HBB).step0 K27)
               clear K27
               refine Stp.go ?_))
          constructor
          clear HBB Aabb Abba Abbp
          go_wp2_with (
            first
            | (go_at_call 20
               refine (unhide HF1 _).mono ?_
               rintro e W28 ⟨rfl, K28⟩
               replace HP := hide ((unhide HP).step0 K28)
               replace HA := hide ((unhide HA).step0 K28)
               clear K28
               refine Stp.go ?_))
          constructor
          go_wp2_with (
            first
            | (go_at_call 19
               refine (ks1 fc1 (unhide HC1) (unhide HA)).mono ?_
               rintro e W29 ⟨m9, rfl, hn9, k9, q9⟩
               obtain ⟨op, pp⟩ := (unhide HP).other (unhide Aap) k9 (unhide HA) q9
               replace HP := hide op
               replace Aap := hide pp
               clear op pp
               replace HA := hide hn9
               clear hn9 k9 q9
               refine Stp.go ?_))
          constructor
          go_wp2_with (
            first
            | (go_at_call 20
               refine (unhide HF2 _).mono ?_
               rintro e W30 ⟨rfl, K30⟩
               replace HP := hide ((unhide HP).step0 K30)
               replace HA := hide ((unhide HA).step0 K30)
               clear K30
               refine Stp.go ?_))
          constructor
          go_wp2_with (
            first
            | (go_at_call 19
               refine (ks2 fc2 (unhide HC2) (unhide HA)).mono ?_
               rintro e W31 ⟨m9, rfl, hn9, k9, q9⟩
               obtain ⟨op, pp⟩ := (unhide HP).other (unhide Aap) k9 (unhide HA) q9
               replace HP := hide op
               replace Aap := hide pp
               clear op pp
               replace HA := hide hn9
               clear hn9 k9 q9
               refine Stp.go ?_))
          constructor
          go_wp2_with (
            first
            | (go_at_call 17
               refine (ks4 (unhide HA)).mono ?_
               rintro e W32 ⟨m9, rfl, hn9, k9, q9⟩
               obtain ⟨op, pp⟩ := (unhide HP).other (unhide Aap) k9 (unhide HA) q9
               replace HP := hide op
               replace Aap := hide pp
               clear op pp
               replace HA := hide hn9
               clear hn9 k9 q9
               refine Stp.go ?_))
          constructor
          go_wp2_with (
            first
            | (go_at_call 23
               refine (on_copy (unhide HA)).mono ?_
               rintro e W90 ⟨bc, mc, rfl, hb9, hm9, hn9, k9⟩
               have HC := hide hn9
               have Acp : Hid (Apt bc mc bp mp) := hide ((unhide HP).apt hb9 hm9)
               have Aca : Hid (Apt bc mc ba _) := hide ((unhide HA).apt hb9 hm9)
               replace HP := hide ((unhide HP).step0 k9)
               replace HA := hide ((unhide HA).step0 k9)
               clear hb9 hm9 hn9 k9
               refine Stp.go ?_))
          constructor
          go_wp2_with (
            first
            | (go_at_call 17
               refine (ks5 (unhide HC)).mono ?_
               rintro e W33 ⟨m9, rfl, hn9, k9, q9⟩
               obtain ⟨op, pp⟩ := (unhide HP).other (unhide Acp) k9 (unhide HC) q9
               replace HP := hide op
               replace Acp := hide pp
               clear op pp
               obtain ⟨oa, pa⟩ := (unhide HA).other (unhide Aca) k9 (unhide HC) q9
               replace HA := hide oa
               replace Aca := hide pa
               clear oa pa
               replace HC := hide hn9
               clear hn9 k9 q9
               refine Stp.go ?_))
          constructor
          go_wp2_with (
            first
            | (go_at_call 13
               refine (kq_same (unhide HA) (unhide HC) false (by kernel_rfl)).mono ?_
               rintro e W34 ⟨rfl, K34⟩
               replace HP := hide ((unhide HP).step0 K34)
               replace HA := hide ((unhide HA).step0 K34)
               replace HC := hide ((unhide HC).step0 K34)
               clear K34
               refine Stp.go ?_))
          constructor
          clear HC Acp Aca HA
          obtain ⟨zp, hzp⟩ : ∃ c, c = Po.C ⟨0, 0, z16⟩ (.map none) := ⟨_, rfl⟩
          have HB70 : Hid (∀ w : World, (Instr.build 70 #[]).run Try.prog w = .ok (aggV zp) w) := fun w => by rw [hzp]; exact build70z w
          have HZP := hide hzp
          clear hzp
          go_wp2_with (
            first
            | (go_at_call 9
               refine (num9 _ _).mono ?_
               rintro e W9 ⟨rfl, q9⟩
               replace q9 := q9.symm
               subst q9)
            | (go_at_call 24
               refine (len_p16 (unhide HP)).mono ?_
               rintro e W91 ⟨rfl, q9⟩
               replace q9 := q9.symm
               subst q9
               refine Stp.go ?_))
          constructor
          go_wp2_with (
            first
            | (go_at_call 9
               refine (num9 _ _).mono ?_
               rintro e W9 ⟨rfl, q9⟩
               replace q9 := q9.symm
               subst q9)
            | (go_at_call 25
               refine (nothing25 none _ (.inl rfl)).mono ?_
               rintro e W92 ⟨rfl, k9⟩
               replace HP := hide ((unhide HP).step0 k9)
               clear k9
               refine Stp.go ?_))
          constructor
          go_wp2_with (
            first
            | (go_at_call 9
               refine (num9 _ _).mono ?_
               rintro e W9 ⟨rfl, q9⟩
               replace q9 := q9.symm
               subst q9)
            | (refine wpBuildW zp (unhide HB70) (by rfl) rfl ?_
               refine Stp.go ?_))
          constructor
          go_wp2_with (
            first
            | (go_at_call 9
               refine (num9 _ _).mono ?_
               rintro e W9 ⟨rfl, q9⟩
               replace q9 := q9.symm
               subst q9)
            | (refine wpBoxW (by rfl) (.tmp 139) rfl zp rfl ?_
               intro W93 bz e9 B9 k9
               have HN : Hid (Nil W93 (P0 bz)) := .inr ⟨bz, rfl, by rw [← unhide HZP]; exact B9⟩
               replace HP := hide ((unhide HP).step0 k9)
               clear e9 B9 k9
               refine Stp.go ?_))
          constructor
          go_wp2_with (
            first
            | (go_at_call 9
               refine (num9 _ _).mono ?_
               rintro e W9 ⟨rfl, q9⟩
               replace q9 := q9.symm
               subst q9)
            | (go_at_call 25
               refine (nothing25 (some ⟨bz, 0, none⟩) _ (unhide HN)).mono ?_
               rintro e W94 ⟨rfl, k9⟩
               replace HP := hide ((unhide HP).step0 k9)
               clear k9
               refine Stp.go ?_))
          constructor
          go_wp2_with (
            first
            | (go_at_call 9
               refine (num9 _ _).mono ?_
               rintro e W9 ⟨rfl, q9⟩
               replace q9 := q9.symm
               subst q9)
            | (go_at_call 13
               refine (on_pz (unhide HP) (.inl rfl)).mono ?_
               rintro e W95 ⟨rfl, q9⟩
               replace q9 := q9.symm
               subst q9
               refine Stp.go ?_))
          constructor
          go_wp2_with (
            first
            | (go_at_call 9
               refine (num9 _ _).mono ?_
               rintro e W9 ⟨rfl, q9⟩
               replace q9 := q9.symm
               subst q9)
            | (go_at_call 10
               refine (known10 _).mono ?_
               rintro e W96 ⟨rfl, k9⟩
               replace HP := hide ((unhide HP).step0 k9)
               clear k9
               refine Stp.go ?_))
          constructor
          go_wp2_with fail
          go_ret
          exact ⟨rfl, (unhide HP).kept⟩

end Go.Proofs.Ytgnafbohikbpfaa
