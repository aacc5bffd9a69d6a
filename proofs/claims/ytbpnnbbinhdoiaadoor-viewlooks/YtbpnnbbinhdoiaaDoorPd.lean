/-
  viewIn and Get.
-/
import Derived.Test.YtbpnnbbinhdoiaaDoorPc
namespace Go.Proofs.YtbpnnbbinhdoiaaDoor
set_option maxRecDepth 100000
open Go.RowKit


theorem cg41 (vs : Array Value) (w : World) : (callFunc 41 vs).run Tryd.prog w = .ok (.enter 41 vs) w := by kernel_rfl
/-- The member that a sector says at the place i. -/
def memV (s : List Int) (i : Nat) : Bool × Int := (decide (s.getD 3 0 / 2 ^ i % 2 = 1), ofB 0 ((s.drop (12 + 4 * i)).take 4))
/-- The view that a sector says. -/
def viewV (s : List Int) : Vw := ⟨ofB 0 ((s.drop 4).take 8), decide (s.getD 1 0 = 1), s.getD 2 0, (List.range 8).map (memV s)⟩
@[reducible] def SG {α : Type} (w : World) (mk : α → List (Nat × Nat × List Value)) (S0 S1 : α) (k : Nat) (d : Nat → Bool) (_ : Nat → Value) (W : World) : Prop :=
  ∃ S, Mm w W (mk S) ∧ (d k = false → S = S0) ∧ (d k = true → S = S1)
theorem SG.loc {α : Type} {w : World} {mk : α → List (Nat × Nat × List Value)} {S0 S1 : α} {k : Nat} : ∀ d d' vs vs' W, (∀ i ∈ [k], d i = d' i ∧ vs i = vs' i) → SG w mk S0 S1 k d vs W → SG w mk S0 S1 k d' vs' W := by
  intro d d' vs vs' W H h
  have e0 := (H k (by simp)).1
  unfold SG at h ⊢
  rw [← e0]
  exact h
/-- A view's variable is made and filled in a region. -/
@[reducible] def SV (V : World) (v : Vw) (d : Nat → Bool) (vs : Nat → Value) (W : World) : Prop :=
  Kept [] V W ∧ (d 9 = true → ∃ p, vs 9 = P0 p ∧ V.heap.size ≤ p ∧ (d 10 = false → Blk W p 26 (vwC zv)) ∧ (d 10 = true → Blk W p 26 (vwC v)))
theorem SV.loc {V : World} {v : Vw} : ∀ d d' vs vs' W, (∀ i ∈ [9, 10], d i = d' i ∧ vs i = vs' i) → SV V v d vs W → SV V v d' vs' W := by
  intro d d' vs vs' W H h
  have e0 := H 9 (by simp)
  have e1 := H 10 (by simp)
  unfold SV at h ⊢
  rw [← e0.1, ← e0.2, ← e1.1]
  exact h
section
variable {o : Oper} {a : Act} {w : World} {K : Act → World → Prop} {Q : Exit → Act → World → Prop}
theorem o_eql5 (x : Operand) (ho : o.op = .binOp .eql 5 x (.const (.int .u8 1)) 5) (m : Int) (r : Bool) (hr : decide (m = 1) = r) (hx : a.eval x = .int .u8 m) (h : K (a.put o.dst (.bool r)) w) : o.wp Tryd.prog a w K Q := by
  subst hr
  unfold Oper.wp execOp
  simp only [ho, hx]
  simp [go_sem, Act.eval]
  have e : (m == 1) = decide (m = 1) := by rw [Bool.eq_iff_iff]; simp
  rw [e]
  exact h
theorem o_cv53 (x : Operand) (ho : o.op = .convert 5 3 x) (m : Int) (hm : 0 ≤ m ∧ m < 256) (hx : a.eval x = .int .u8 m) (h : K (a.put o.dst (.int .i64 m)) w) : o.wp Tryd.prog a w K Q := by
  have hw : IntKind.i64.wrap m = m := by rw [IntKind.wrap_i64]; omega
  unfold Oper.wp execOp
  simp only [ho, hx]
  simp [go_sem, hw]
  exact h
theorem o_bld26 (x y z : Operand) (ho : o.op = .build 26 #[(0, x), (1, y), (2, z)]) (n f : Int) (b : Bool) (hx : a.eval x = .int .i64 n) (hy : a.eval y = .bool b) (hz : a.eval z = .int .i64 f) (h : K (a.put o.dst (aggV (vwC ⟨n, b, f, no8⟩))) w) : o.wp Tryd.prog a w K Q := by
  unfold Oper.wp execOp
  simp only [ho, List.map_toArray, List.map_cons, List.map_nil, hx, hy, hz, Sem.run_bind, build26p, Result.andThen_ok]
  exact h
theorem o_bld23 (x y : Operand) (ho : o.op = .build 23 #[(0, x), (1, y)]) (b : Bool) (n : Int) (hx : a.eval x = .bool b) (hy : a.eval y = .int .i64 n) (h : K (a.put o.dst (aggV (memC (b, n)))) w) : o.wp Tryd.prog a w K Q := by
  unfold Oper.wp execOp
  simp only [ho, List.map_toArray, List.map_cons, List.map_nil, hx, hy, Sem.run_bind, build23p, Result.andThen_ok]
  exact h
theorem o_fld26_3 (x : Operand) (ho : o.op = .fieldAddr 26 x 3) (b : Nat) (hx : a.eval x = P0 b) (h : K (a.put o.dst (.pointer (some ⟨b, 3, none⟩))) w) : o.wp Tryd.prog a w K Q := by
  unfold Oper.wp execOp
  simp only [ho, hx]
  simp [go_sem]
  exact h
theorem o_idx24 (x y : Operand) (ho : o.op = .indexAddr 24 x y) (b j : Nat) (hj : j < 8) (hx : a.eval x = .pointer (some ⟨b, 3, none⟩)) (hy : a.eval y = .int .i64 j) (h : K (a.put o.dst (.pointer (some ⟨b, 3 + j * 2, none⟩))) w) : o.wp Tryd.prog a w K Q := by
  have hj2 : (j : Int) < 8 := by omega
  unfold Oper.wp execOp
  simp only [ho, hx, hy]
  simp [go_sem, hj2]
  exact h
theorem o_shr8 (x y : Operand) (ho : o.op = .binOp .shr 5 x y 3) (m : Int) (j : Nat) (hj : j < 8) (hx : a.eval x = .int .u8 m) (hy : a.eval y = .int .i64 j) (h : K (a.put o.dst (.int .u8 (m / 2 ^ j))) w) : o.wp Tryd.prog a w K Q := by
  unfold Oper.wp execOp
  simp only [ho, hx, hy]
  rcases (show j = 0 ∨ j = 1 ∨ j = 2 ∨ j = 3 ∨ j = 4 ∨ j = 5 ∨ j = 6 ∨ j = 7 by omega) with rfl | rfl | rfl | rfl | rfl | rfl | rfl | rfl
  all_goals
    simp [go_sem] at h ⊢
    exact h
theorem and_bit (m : Int) (h0 : 0 ≤ m) (h1 : m < 256) : bits BinOp.and IntKind.u8 m 1 = m % 2 := by
  have ha : (BitVec.ofInt 8 m).toNat = m.toNat := by rw [BitVec.toNat_ofInt]; omega
  show IntKind.u8.wrap ((BitVec.ofInt 8 m &&& BitVec.ofInt 8 1).toNat : Int) = _
  rw [BitVec.toNat_and, ha, show (BitVec.ofInt 8 1).toNat = 1 from by decide, Nat.and_one_is_mod]
  simp [IntKind.wrap, IntKind.bits, IntKind.signed]
  omega
theorem o_and8 (x : Operand) (ho : o.op = .binOp .and 5 x (.const (.int .u8 1)) 5) (m : Int) (hm : 0 ≤ m ∧ m < 256) (hx : a.eval x = .int .u8 m) (h : K (a.put o.dst (.int .u8 (m % 2))) w) : o.wp Tryd.prog a w K Q := by
  rw [← and_bit m hm.1 hm.2] at h
  unfold Oper.wp execOp
  simp only [ho, hx]
  simp [go_sem, Act.eval] at h ⊢
  exact h
theorem o_stMem (x y : Operand) (ho : o.op = .store 23 x y) (hd : o.dst = none) (b n : Nat) (v : Vw) (m : Bool × Int) (hx : a.eval x = .pointer (some ⟨b, 3 + n * 2, none⟩)) (hy : a.eval y = aggV (memC m)) (hB : Blk w b 26 (vwC v)) (hn : n < 8) (hv : v.ms.length = 8)
    (h : ∀ W, Blk W b 26 (vwC ⟨v.nu, v.op, v.fd, v.ms.set n m⟩) → Kept [b] w W → K (a.put o.dst undef) W) : o.wp Tryd.prog a w K Q :=
  wp_storeN row23 x y ho hd b (3 + n * 2) (memC m) hx hy rfl (memC_one _) (hB.there (by simp [vwC_len hv]; omega)) (by have := h _ (hB.setMem n (by omega) m) ((Kept.refl _ _).setCells _ _ (by simp)); rw [hd] at this; exact this)
end
theorem fill_next (s : List Int) (j : Nat) (h : j < 8) : (((List.range 8).map (memV s)).take j ++ no8.drop j).set j (memV s j) = ((List.range 8).map (memV s)).take (j + 1) ++ no8.drop (j + 1) := by
  rcases (show j = 0 ∨ j = 1 ∨ j = 2 ∨ j = 3 ∨ j = 4 ∨ j = 5 ∨ j = 6 ∨ j = 7 by omega) with rfl | rfl | rfl | rfl | rfl | rfl | rfl | rfl <;> rfl
set_option maxHeartbeats 8000000 in
theorem viewin_s (s : List Int) (w : World) (hF : First w) (hs : Byts 64 s) (hz : decide (s = zs 64) = false) : Calls Tryd.prog 34 #[aggV (u8s s)] w fun e w' => e = .returned (aggV (vwC (viewV s))) ∧ Kept [] w w' := by
  have hg : ∀ k, k < 64 → (u8s s)[k]? = some (.int .u8 (s.getD k 0)) ∧ (0 ≤ s.getD k 0 ∧ s.getD k 0 < 256) := by
    intro k hk
    have hk2 : k < s.length := by rw [hs.len]; exact hk
    have e : s.getD k 0 = s[k] := by rw [List.getD_eq_getElem?_getD, List.getElem?_eq_getElem hk2]; rfl
    exact ⟨by simp only [u8s, List.getElem?_map]; rw [List.getElem?_eq_getElem hk2, e]; rfl, by rw [e]; exact hs.byte _ (List.getElem_mem _)⟩
  have HC1 := hide (hg 1 (by omega)).1
  have HC2 := hide (hg 2 (by omega)).1
  have HC3 := hide (hg 3 (by omega)).1
  have HB2 := hide (hg 2 (by omega)).2
  have hb3 := (hg 3 (by omega)).2
  have HBB := hide hb3
  clear hg hb3
  go_enter Tryd.func34, Tryd.ntmps34
  have M : Hid (Mm w w []) := hide (Mm.init hF)
  go_wp2_with (
    first
    | (refine wpBoxV rfl (.tmp 0) rfl (u8s s) rfl ?_
       intro W1 b1 e1 B1 K1
       replace M : Hid (Mm w W1 [(b1, 28, u8s s)]) := hide ((unhide M).new e1 B1 K1)
       clear e1 B1 K1
       refine Stp.go ?_))
  constructor
  go_wp2_with (
    first
    | (refine wpAllocW (vwC zv) zero26 2 rfl rfl rfl ?_
       intro W2 b2 e2 B2 K2
       replace M : Hid (Mm w W2 [(b1, 28, u8s s), (b2, 26, vwC zv)]) := hide ((unhide M).new e2 B2 K2)
       clear e2 B2 K2
       refine Stp.go ?_))
  constructor
  go_wp2_with (
    first
    | (refine wpLoadA row28 rfl (.tmp 1) rfl b1 0 rfl (u8s s) (by rw [u8s_len]; exact hs.len) ((unhide M).at 0 _ rfl).range ?_
       refine Stp.go ?_))
  constructor
  go_wp2_with (
    first
    | (refine wpBuildZ (T := 28) (u8s (zs 64)) build28 rfl rfl ?_
       refine Stp.go ?_))
  constructor
  go_wp2_with (
    first
    | (refine wpEqlA 28 28 guard28 (.tmp 5) (.tmp 6) rfl rfl (u8s s) (u8s (zs 64)) rfl rfl false ((equal28 _ s (zs 64) hs.len (by simp [zs])).trans (by rw [hz])) ?_
       refine Stp.go ?_))
  constructor
  go_wp2_with fail
  refine wp_region_any mixed (wpAny_gx 11 rfl (by kernel_rfl) [some (.slice (some ⟨b1, 4, none⟩) 8 60), some (.int .i64 (ofB 0 ((s.drop 4).take 8))), some (.pointer (some ⟨b1, 1, none⟩)), some (.int .u8 (s.getD 1 0)), some (.bool (decide (s.getD 1 0 = 1))), some (.pointer (some ⟨b1, 2, none⟩)), some (.int .u8 (s.getD 2 0)), some (.int .i64 (s.getD 2 0)), some (aggV (vwC ⟨ofB 0 ((s.drop 4).take 8), decide (s.getD 1 0 = 1), s.getD 2 0, no8⟩)), none, none] rfl (by kernel_rfl) (fun l vs W => (SV W2 ⟨ofB 0 ((s.drop 4).take 8), decide (s.getD 1 0 = 1), s.getD 2 0, no8⟩) (fun i => l.getD i false) vs W) (⟨⟨rfl, rfl, rfl, Nat.le_refl _, fun _ _ _ => rfl⟩, fun h => by cases h⟩) ?_ ?_)
  · intro ix o' hi ho a' w2 l vs hls hlf hJ hout hin hdep hnot
    match ix, ho with
    | 0, ho =>
      obtain rfl := Option.some.inj ho
      have e0 := hout 1 (by kernel_rfl)
      replace e0 : a'.eval (.tmp 1) = _ := e0.trans rfl
      exact o_sl28 (.tmp 1) rfl b1 e0 ⟨_, rfl, told_of rfl, keepG (St := (SV W2 ⟨ofB 0 ((s.drop 4).take 8), decide (s.getD 1 0 = 1), s.getD 2 0, no8⟩)) [9, 10] SV.loc (by omega) (by decide) hJ⟩
    | 1, ho =>
      obtain rfl := Option.some.inj ho
      have e0 : a'.eval (.tmp 9) = .slice (some ⟨b1, 4, none⟩) 8 60 := by have h9 := hin 0 9 (by kernel_rfl) (by kernel_rfl); exact h9.1.trans (told_is _ h9.2 rfl)
      refine wp_callF 41 _ _ rfl #[.slice (some ⟨b1, 4, none⟩) 8 60] (by simp [e0]) (cg41 _ _) ((number41 b1 8 4 (s.take 4) ((s.drop 4).take 8) ((s.drop 4).drop 8) w2 (by have h9 := ((unhide M).step hJ.1).at 0 _ rfl; rw [show s.take 4 ++ (s.drop 4).take 8 ++ (s.drop 4).drop 8 = s by rw [List.append_assoc, List.take_append_drop, List.take_append_drop]]; exact h9) (by rw [List.length_take, hs.len]; rfl) (by rw [List.length_take, List.length_drop, hs.len]; rfl) (fun x hx => hs.byte x (List.mem_of_mem_drop (List.mem_of_mem_take hx))) 60 (by omega)).mono ?_)
      rintro e w3 ⟨rfl, rfl⟩
      exact ⟨_, rfl, _, rfl, told_of rfl, keepG (St := (SV W2 ⟨ofB 0 ((s.drop 4).take 8), decide (s.getD 1 0 = 1), s.getD 2 0, no8⟩)) [9, 10] SV.loc (by omega) (by decide) hJ⟩
    | 2, ho =>
      obtain rfl := Option.some.inj ho
      have e0 := hout 1 (by kernel_rfl)
      replace e0 : a'.eval (.tmp 1) = _ := e0.trans rfl
      exact o_idx28 (.tmp 1) 1 (by omega) rfl b1 e0 ⟨_, rfl, told_of rfl, keepG (St := (SV W2 ⟨ofB 0 ((s.drop 4).take 8), decide (s.getD 1 0 = 1), s.getD 2 0, no8⟩)) [9, 10] SV.loc (by omega) (by decide) hJ⟩
    | 3, ho =>
      obtain rfl := Option.some.inj ho
      have e0 : a'.eval (.tmp 11) = .pointer (some ⟨b1, 1, none⟩) := by have h9 := hin 2 11 (by kernel_rfl) (by kernel_rfl); exact h9.1.trans (told_is _ h9.2 rfl)
      exact o_load5 (.tmp 11) rfl _ _ e0 (fits_cell (((unhide M).step hJ.1).at 0 _ rfl) 1 _ (unhide HC1)) ⟨_, rfl, told_of rfl, keepG (St := (SV W2 ⟨ofB 0 ((s.drop 4).take 8), decide (s.getD 1 0 = 1), s.getD 2 0, no8⟩)) [9, 10] SV.loc (by omega) (by decide) hJ⟩
    | 4, ho =>
      obtain rfl := Option.some.inj ho
      have e0 : a'.eval (.tmp 12) = .int .u8 (s.getD 1 0) := by have h9 := hin 3 12 (by kernel_rfl) (by kernel_rfl); exact h9.1.trans (told_is _ h9.2 rfl)
      exact o_eql5 (.tmp 12) rfl _ _ rfl e0 ⟨_, rfl, told_of rfl, keepG (St := (SV W2 ⟨ofB 0 ((s.drop 4).take 8), decide (s.getD 1 0 = 1), s.getD 2 0, no8⟩)) [9, 10] SV.loc (by omega) (by decide) hJ⟩
    | 5, ho =>
      obtain rfl := Option.some.inj ho
      have e0 := hout 1 (by kernel_rfl)
      replace e0 : a'.eval (.tmp 1) = _ := e0.trans rfl
      exact o_idx28 (.tmp 1) 2 (by omega) rfl b1 e0 ⟨_, rfl, told_of rfl, keepG (St := (SV W2 ⟨ofB 0 ((s.drop 4).take 8), decide (s.getD 1 0 = 1), s.getD 2 0, no8⟩)) [9, 10] SV.loc (by omega) (by decide) hJ⟩
    | 6, ho =>
      obtain rfl := Option.some.inj ho
      have e0 : a'.eval (.tmp 14) = .pointer (some ⟨b1, 2, none⟩) := by have h9 := hin 5 14 (by kernel_rfl) (by kernel_rfl); exact h9.1.trans (told_is _ h9.2 rfl)
      exact o_load5 (.tmp 14) rfl _ _ e0 (fits_cell (((unhide M).step hJ.1).at 0 _ rfl) 2 _ (unhide HC2)) ⟨_, rfl, told_of rfl, keepG (St := (SV W2 ⟨ofB 0 ((s.drop 4).take 8), decide (s.getD 1 0 = 1), s.getD 2 0, no8⟩)) [9, 10] SV.loc (by omega) (by decide) hJ⟩
    | 7, ho =>
      obtain rfl := Option.some.inj ho
      have e0 : a'.eval (.tmp 15) = .int .u8 (s.getD 2 0) := by have h9 := hin 6 15 (by kernel_rfl) (by kernel_rfl); exact h9.1.trans (told_is _ h9.2 rfl)
      exact o_cv53 (.tmp 15) rfl _ (unhide HB2) e0 ⟨_, rfl, told_of rfl, keepG (St := (SV W2 ⟨ofB 0 ((s.drop 4).take 8), decide (s.getD 1 0 = 1), s.getD 2 0, no8⟩)) [9, 10] SV.loc (by omega) (by decide) hJ⟩
    | 8, ho =>
      obtain rfl := Option.some.inj ho
      have e0 : a'.eval (.tmp 10) = .int .i64 (ofB 0 ((s.drop 4).take 8)) := by have h9 := hin 1 10 (by kernel_rfl) (by kernel_rfl); exact h9.1.trans (told_is _ h9.2 rfl)
      have e1 : a'.eval (.tmp 13) = .bool (decide (s.getD 1 0 = 1)) := by have h9 := hin 4 13 (by kernel_rfl) (by kernel_rfl); exact h9.1.trans (told_is _ h9.2 rfl)
      have e2 : a'.eval (.tmp 16) = .int .i64 (s.getD 2 0) := by have h9 := hin 7 16 (by kernel_rfl) (by kernel_rfl); exact h9.1.trans (told_is _ h9.2 rfl)
      exact o_bld26 (.tmp 10) (.tmp 13) (.tmp 16) rfl _ _ _ e0 e1 e2 ⟨_, rfl, told_of rfl, keepG (St := (SV W2 ⟨ofB 0 ((s.drop 4).take 8), decide (s.getD 1 0 = 1), s.getD 2 0, no8⟩)) [9, 10] SV.loc (by omega) (by decide) hJ⟩
    | 9, ho =>
      obtain rfl := Option.some.inj ho
      exact wp_allocA (vwC zv) zero26 rfl ⟨_, rfl, told_no rfl, nextG (St := (SV W2 ⟨ofB 0 ((s.drop 4).take 8), decide (s.getD 1 0 = 1), s.getD 2 0, no8⟩)) (by omega) ⟨hJ.1.alloc _, fun _ => ⟨w2.heap.size, rfl, hJ.1.size, fun _ => Blk.new w2 26 _, fun h => by have h9 : l.getD 10 false = true := h; rw [hnot 10 (by kernel_rfl)] at h9; cases h9⟩⟩⟩
    | 10, ho =>
      obtain rfl := Option.some.inj ho
      have e0 : a'.eval (.tmp 3) = vs 9 := (hin 9 3 (by kernel_rfl) (by kernel_rfl)).1
      have e1 : a'.eval (.tmp 17) = aggV (vwC ⟨ofB 0 ((s.drop 4).take 8), decide (s.getD 1 0 = 1), s.getD 2 0, no8⟩) := by have h9 := hin 8 17 (by kernel_rfl) (by kernel_rfl); exact h9.1.trans (told_is _ h9.2 rfl)
      obtain ⟨p, hp, hge, hz0, _⟩ := hJ.2 (hdep 9 (by kernel_rfl))
      exact wp_storeN row26 (.tmp 3) (.tmp 17) rfl rfl p 0 _ (e0.trans hp) e1 rfl (vwC_one _) ((hz0 hlf).there (by decide)) ⟨undef, rfl, told_no rfl, nextG (St := (SV W2 ⟨ofB 0 ((s.drop 4).take 8), decide (s.getD 1 0 = 1), s.getD 2 0, no8⟩)) (by omega) ⟨hJ.1.setCells _ _ (by omega), fun _ => ⟨p, hp, hge, (fun h => by cases h), fun _ => (hz0 hlf).put rfl⟩⟩⟩
  intro l_ vs4 V4 hl hJ htold
  have t0 : vs4 0 = .slice (some ⟨b1, 4, none⟩) 8 60 := told_is _ (htold 0 (by decide)) rfl
  have t1 : vs4 1 = .int .i64 (ofB 0 ((s.drop 4).take 8)) := told_is _ (htold 1 (by decide)) rfl
  have t2 : vs4 2 = .pointer (some ⟨b1, 1, none⟩) := told_is _ (htold 2 (by decide)) rfl
  have t3 : vs4 3 = .int .u8 (s.getD 1 0) := told_is _ (htold 3 (by decide)) rfl
  have t4 : vs4 4 = .bool (decide (s.getD 1 0 = 1)) := told_is _ (htold 4 (by decide)) rfl
  have t5 : vs4 5 = .pointer (some ⟨b1, 2, none⟩) := told_is _ (htold 5 (by decide)) rfl
  have t6 : vs4 6 = .int .u8 (s.getD 2 0) := told_is _ (htold 6 (by decide)) rfl
  have t7 : vs4 7 = .int .i64 (s.getD 2 0) := told_is _ (htold 7 (by decide)) rfl
  have t8 : vs4 8 = aggV (vwC ⟨ofB 0 ((s.drop 4).take 8), decide (s.getD 1 0 = 1), s.getD 2 0, no8⟩) := told_is _ (htold 8 (by decide)) rfl
  rw [show (List.range 11).map vs4 = [vs4 0, vs4 1, vs4 2, vs4 3, vs4 4, vs4 5, vs4 6, vs4 7, vs4 8, vs4 9, vs4 10] from rfl]
  simp only [t0, t1, t2, t3, t4, t5, t6, t7, t8, putAll, Act.put, List.setIfInBounds_toArray, List.set_cons_succ, List.set_cons_zero]
  clear t0 t1 t2 t3 t4 t5 t6 t7 t8 htold
  obtain ⟨p, ep, hgp, _, hbp⟩ := hJ.2 (hl 9 (by decide))
  replace hbp := hbp (hl 10 (by decide))
  have hb1 : b1 < W2.heap.size := ((unhide M).at 0 _ rfl).lt
  have hb2 : b2 < W2.heap.size := ((unhide M).at 1 _ rfl).lt
  have hwz := (unhide M).kept.size
  replace M : Hid (Mm w V4 [(b1, 28, u8s s), (b2, 26, vwC zv), (p, 26, vwC ⟨ofB 0 ((s.drop 4).take 8), decide (s.getD 1 0 = 1), s.getD 2 0, no8⟩)]) := hide (((unhide M).step hJ.1).add hbp (by omega) (fun x hx => by simp at hx; rcases hx with rfl | rfl <;> simp <;> omega))
  rw [ep]
  clear hJ hl ep hgp hbp hb1 hb2 hwz
  go_wp2_with fail
  go_loopw [18] (fun i wr => ∃ j : Nat, j ≤ 8 ∧ i = .int .i64 j ∧ Hid (Mm w wr [(b1, 28, u8s s), (b2, 26, vwC zv), (p, 26, vwC ⟨ofB 0 ((s.drop 4).take 8), decide (s.getD 1 0 = 1), s.getD 2 0, ((List.range 8).map (memV s)).take j ++ no8.drop j⟩)])) (fun i _ => 8 - (intOf i).toNat)
  case atStart => exact ⟨0, by omega, rfl, M⟩
  case round =>
    clear M
    obtain ⟨j, hj, rfl, M⟩ := hrel
    by_cases hlt : j < 8
    · have hltI : (j : Int) < 8 := by omega
      have hd : decide ((j : Int) < 8) = true := by simpa using hltI
      have HJ8 := hide hlt
      have HLJ : Hid ((((List.range 8).map (memV s)).take j ++ no8.drop j).length = 8) := by show _ = _; simp [no8]; omega
      have HB3 : Hid (0 ≤ s.getD 3 0 / 2 ^ j ∧ s.getD 3 0 / 2 ^ j < 256) := by
        obtain ⟨h0, h1⟩ := unhide HBB
        have hp : (1 : Int) ≤ 2 ^ j := by
          have : (0 : Int) < 2 ^ j := Int.pow_pos (by omega)
          omega
        refine ⟨Int.ediv_nonneg h0 (by omega), ?_⟩
        have := Int.ediv_le_self (2 ^ j) h0
        omega
      go_wp2_with fail
      refine wp_region_any mixed (wpAny_gx 15 rfl (by kernel_rfl) [some (.int .i64 j), some (.pointer (some ⟨b1, 3, none⟩)), some (.int .u8 (s.getD 3 0)), some (.int .i64 j), some (.int .u8 (s.getD 3 0 / 2 ^ j)), some (.int .u8 (s.getD 3 0 / 2 ^ j % 2)), some (.bool (decide (s.getD 3 0 / 2 ^ j % 2 = 1))), some (.slice (some ⟨b1, 0, none⟩) 64 64), some (.int .i64 j), some (.slice (some ⟨b1, 12 + 4 * j, none⟩) 4 (52 - 4 * j)), some (.int .i64 (ofB 0 ((s.drop (12 + 4 * j)).take 4))), some (aggV (memC (memV s j))), some (.pointer (some ⟨p, 3, none⟩)), some (.pointer (some ⟨p, 3 + j * 2, none⟩)), none] rfl (by kernel_rfl) (fun l vs W => (SG w (fun S : Vw => [(b1, 28, u8s s), (b2, 26, vwC zv), (p, 26, vwC S)]) ⟨ofB 0 ((s.drop 4).take 8), decide (s.getD 1 0 = 1), s.getD 2 0, ((List.range 8).map (memV s)).take j ++ no8.drop j⟩ ⟨ofB 0 ((s.drop 4).take 8), decide (s.getD 1 0 = 1), s.getD 2 0, (((List.range 8).map (memV s)).take j ++ no8.drop j).set j (memV s j)⟩ 14) (fun i => l.getD i false) vs W) (⟨_, (unhide M).drew, (fun _ => rfl), fun h => by cases h⟩) ?_ ?_)
      · intro ix o' hi ho a' w2 l vs hls hlf hJ hout hin hdep hnot
        match ix, ho with
        | 0, ho =>
          obtain rfl := Option.some.inj ho
          have e0 := hout 4 (by kernel_rfl)
          replace e0 : a'.eval (.tmp 4) = _ := e0.trans rfl
          exact wp_move (.tmp 4) rfl _ e0 ⟨_, rfl, told_of rfl, keepG (St := (SG w (fun S : Vw => [(b1, 28, u8s s), (b2, 26, vwC zv), (p, 26, vwC S)]) ⟨ofB 0 ((s.drop 4).take 8), decide (s.getD 1 0 = 1), s.getD 2 0, ((List.range 8).map (memV s)).take j ++ no8.drop j⟩ ⟨ofB 0 ((s.drop 4).take 8), decide (s.getD 1 0 = 1), s.getD 2 0, (((List.range 8).map (memV s)).take j ++ no8.drop j).set j (memV s j)⟩ 14)) [14] SG.loc (by omega) (by decide) hJ⟩
        | 1, ho =>
          obtain rfl := Option.some.inj ho
          have e0 := hout 1 (by kernel_rfl)
          replace e0 : a'.eval (.tmp 1) = _ := e0.trans rfl
          exact o_idx28 (.tmp 1) 3 (by omega) rfl b1 e0 ⟨_, rfl, told_of rfl, keepG (St := (SG w (fun S : Vw => [(b1, 28, u8s s), (b2, 26, vwC zv), (p, 26, vwC S)]) ⟨ofB 0 ((s.drop 4).take 8), decide (s.getD 1 0 = 1), s.getD 2 0, ((List.range 8).map (memV s)).take j ++ no8.drop j⟩ ⟨ofB 0 ((s.drop 4).take 8), decide (s.getD 1 0 = 1), s.getD 2 0, (((List.range 8).map (memV s)).take j ++ no8.drop j).set j (memV s j)⟩ 14)) [14] SG.loc (by omega) (by decide) hJ⟩
        | 2, ho =>
          obtain rfl := Option.some.inj ho
          have e0 : a'.eval (.tmp 22) = .pointer (some ⟨b1, 3, none⟩) := by have h9 := hin 1 22 (by kernel_rfl) (by kernel_rfl); exact h9.1.trans (told_is _ h9.2 rfl)
          have hJ2 := hJ
          obtain ⟨S, hM, _, _⟩ := hJ2
          exact o_load5 (.tmp 22) rfl _ _ e0 (fits_cell (hM.at 0 _ rfl) 3 _ (unhide HC3)) ⟨_, rfl, told_of rfl, keepG (St := (SG w (fun S : Vw => [(b1, 28, u8s s), (b2, 26, vwC zv), (p, 26, vwC S)]) ⟨ofB 0 ((s.drop 4).take 8), decide (s.getD 1 0 = 1), s.getD 2 0, ((List.range 8).map (memV s)).take j ++ no8.drop j⟩ ⟨ofB 0 ((s.drop 4).take 8), decide (s.getD 1 0 = 1), s.getD 2 0, (((List.range 8).map (memV s)).take j ++ no8.drop j).set j (memV s j)⟩ 14)) [14] SG.loc (by omega) (by decide) hJ⟩
        | 3, ho =>
          obtain rfl := Option.some.inj ho
          have e0 := hout 4 (by kernel_rfl)
          replace e0 : a'.eval (.tmp 4) = _ := e0.trans rfl
          exact wp_move (.tmp 4) rfl _ e0 ⟨_, rfl, told_of rfl, keepG (St := (SG w (fun S : Vw => [(b1, 28, u8s s), (b2, 26, vwC zv), (p, 26, vwC S)]) ⟨ofB 0 ((s.drop 4).take 8), decide (s.getD 1 0 = 1), s.getD 2 0, ((List.range 8).map (memV s)).take j ++ no8.drop j⟩ ⟨ofB 0 ((s.drop 4).take 8), decide (s.getD 1 0 = 1), s.getD 2 0, (((List.range 8).map (memV s)).take j ++ no8.drop j).set j (memV s j)⟩ 14)) [14] SG.loc (by omega) (by decide) hJ⟩
        | 4, ho =>
          obtain rfl := Option.some.inj ho
          have e0 : a'.eval (.tmp 23) = .int .u8 (s.getD 3 0) := by have h9 := hin 2 23 (by kernel_rfl) (by kernel_rfl); exact h9.1.trans (told_is _ h9.2 rfl)
          have e1 : a'.eval (.tmp 24) = .int .i64 j := by have h9 := hin 3 24 (by kernel_rfl) (by kernel_rfl); exact h9.1.trans (told_is _ h9.2 rfl)
          exact o_shr8 (.tmp 23) (.tmp 24) rfl _ j (unhide HJ8) e0 e1 ⟨_, rfl, told_of rfl, keepG (St := (SG w (fun S : Vw => [(b1, 28, u8s s), (b2, 26, vwC zv), (p, 26, vwC S)]) ⟨ofB 0 ((s.drop 4).take 8), decide (s.getD 1 0 = 1), s.getD 2 0, ((List.range 8).map (memV s)).take j ++ no8.drop j⟩ ⟨ofB 0 ((s.drop 4).take 8), decide (s.getD 1 0 = 1), s.getD 2 0, (((List.range 8).map (memV s)).take j ++ no8.drop j).set j (memV s j)⟩ 14)) [14] SG.loc (by omega) (by decide) hJ⟩
        | 5, ho =>
          obtain rfl := Option.some.inj ho
          have e0 : a'.eval (.tmp 25) = .int .u8 (s.getD 3 0 / 2 ^ j) := by have h9 := hin 4 25 (by kernel_rfl) (by kernel_rfl); exact h9.1.trans (told_is _ h9.2 rfl)
          exact o_and8 (.tmp 25) rfl _ (unhide HB3) e0 ⟨_, rfl, told_of rfl, keepG (St := (SG w (fun S : Vw => [(b1, 28, u8s s), (b2, 26, vwC zv), (p, 26, vwC S)]) ⟨ofB 0 ((s.drop 4).take 8), decide (s.getD 1 0 = 1), s.getD 2 0, ((List.range 8).map (memV s)).take j ++ no8.drop j⟩ ⟨ofB 0 ((s.drop 4).take 8), decide (s.getD 1 0 = 1), s.getD 2 0, (((List.range 8).map (memV s)).take j ++ no8.drop j).set j (memV s j)⟩ 14)) [14] SG.loc (by omega) (by decide) hJ⟩
        | 6, ho =>
          obtain rfl := Option.some.inj ho
          have e0 : a'.eval (.tmp 26) = .int .u8 (s.getD 3 0 / 2 ^ j % 2) := by have h9 := hin 5 26 (by kernel_rfl) (by kernel_rfl); exact h9.1.trans (told_is _ h9.2 rfl)
          exact o_eql5 (.tmp 26) rfl _ _ rfl e0 ⟨_, rfl, told_of rfl, keepG (St := (SG w (fun S : Vw => [(b1, 28, u8s s), (b2, 26, vwC zv), (p, 26, vwC S)]) ⟨ofB 0 ((s.drop 4).take 8), decide (s.getD 1 0 = 1), s.getD 2 0, ((List.range 8).map (memV s)).take j ++ no8.drop j⟩ ⟨ofB 0 ((s.drop 4).take 8), decide (s.getD 1 0 = 1), s.getD 2 0, (((List.range 8).map (memV s)).take j ++ no8.drop j).set j (memV s j)⟩ 14)) [14] SG.loc (by omega) (by decide) hJ⟩
        | 7, ho =>
          obtain rfl := Option.some.inj ho
          have e0 := hout 1 (by kernel_rfl)
          replace e0 : a'.eval (.tmp 1) = _ := e0.trans rfl
          exact o_all28 (.tmp 1) rfl b1 e0 ⟨_, rfl, told_of rfl, keepG (St := (SG w (fun S : Vw => [(b1, 28, u8s s), (b2, 26, vwC zv), (p, 26, vwC S)]) ⟨ofB 0 ((s.drop 4).take 8), decide (s.getD 1 0 = 1), s.getD 2 0, ((List.range 8).map (memV s)).take j ++ no8.drop j⟩ ⟨ofB 0 ((s.drop 4).take 8), decide (s.getD 1 0 = 1), s.getD 2 0, (((List.range 8).map (memV s)).take j ++ no8.drop j).set j (memV s j)⟩ 14)) [14] SG.loc (by omega) (by decide) hJ⟩
        | 8, ho =>
          obtain rfl := Option.some.inj ho
          have e0 := hout 4 (by kernel_rfl)
          replace e0 : a'.eval (.tmp 4) = _ := e0.trans rfl
          exact wp_move (.tmp 4) rfl _ e0 ⟨_, rfl, told_of rfl, keepG (St := (SG w (fun S : Vw => [(b1, 28, u8s s), (b2, 26, vwC zv), (p, 26, vwC S)]) ⟨ofB 0 ((s.drop 4).take 8), decide (s.getD 1 0 = 1), s.getD 2 0, ((List.range 8).map (memV s)).take j ++ no8.drop j⟩ ⟨ofB 0 ((s.drop 4).take 8), decide (s.getD 1 0 = 1), s.getD 2 0, (((List.range 8).map (memV s)).take j ++ no8.drop j).set j (memV s j)⟩ 14)) [14] SG.loc (by omega) (by decide) hJ⟩
        | 9, ho =>
          obtain rfl := Option.some.inj ho
          have e0 : a'.eval (.tmp 28) = .slice (some ⟨b1, 0, none⟩) 64 64 := by have h9 := hin 7 28 (by kernel_rfl) (by kernel_rfl); exact h9.1.trans (told_is _ h9.2 rfl)
          have e1 : a'.eval (.tmp 29) = .int .i64 j := by have h9 := hin 8 29 (by kernel_rfl) (by kernel_rfl); exact h9.1.trans (told_is _ h9.2 rfl)
          refine wp_callF 33 _ _ rfl #[.slice (some ⟨b1, 0, none⟩) 64 64, .int .i64 j] (by simp [e0, e1]) (cg33 _ _) ((epoch33 b1 j w2 (unhide HJ8)).mono ?_)
          rintro e w3 ⟨rfl, rfl⟩
          exact ⟨_, rfl, _, rfl, told_of rfl, keepG (St := (SG w (fun S : Vw => [(b1, 28, u8s s), (b2, 26, vwC zv), (p, 26, vwC S)]) ⟨ofB 0 ((s.drop 4).take 8), decide (s.getD 1 0 = 1), s.getD 2 0, ((List.range 8).map (memV s)).take j ++ no8.drop j⟩ ⟨ofB 0 ((s.drop 4).take 8), decide (s.getD 1 0 = 1), s.getD 2 0, (((List.range 8).map (memV s)).take j ++ no8.drop j).set j (memV s j)⟩ 14)) [14] SG.loc (by omega) (by decide) hJ⟩
        | 10, ho =>
          obtain rfl := Option.some.inj ho
          have e0 : a'.eval (.tmp 30) = .slice (some ⟨b1, 12 + 4 * j, none⟩) 4 (52 - 4 * j) := by have h9 := hin 9 30 (by kernel_rfl) (by kernel_rfl); exact h9.1.trans (told_is _ h9.2 rfl)
          have hJ2 := hJ
          obtain ⟨S, hM, _, _⟩ := hJ2
          refine wp_callF 41 _ _ rfl #[.slice (some ⟨b1, 12 + 4 * j, none⟩) 4 (52 - 4 * j)] (by simp [e0]) (cg41 _ _) ((number41 b1 4 (12 + 4 * j) (s.take (12 + 4 * j)) ((s.drop (12 + 4 * j)).take 4) ((s.drop (12 + 4 * j)).drop 4) w2 (by have h9 := hM.at 0 _ rfl; rw [show s.take (12 + 4 * j) ++ (s.drop (12 + 4 * j)).take 4 ++ (s.drop (12 + 4 * j)).drop 4 = s by rw [List.append_assoc, List.take_append_drop, List.take_append_drop]]; exact h9) (by have := unhide HJ8; rw [List.length_take, hs.len]; omega) (by have := unhide HJ8; rw [List.length_take, List.length_drop, hs.len]; omega) (fun x hx => hs.byte x (List.mem_of_mem_drop (List.mem_of_mem_take hx))) _ (by omega)).mono ?_)
          rintro e w3 ⟨rfl, rfl⟩
          exact ⟨_, rfl, _, rfl, told_of rfl, keepG (St := (SG w (fun S : Vw => [(b1, 28, u8s s), (b2, 26, vwC zv), (p, 26, vwC S)]) ⟨ofB 0 ((s.drop 4).take 8), decide (s.getD 1 0 = 1), s.getD 2 0, ((List.range 8).map (memV s)).take j ++ no8.drop j⟩ ⟨ofB 0 ((s.drop 4).take 8), decide (s.getD 1 0 = 1), s.getD 2 0, (((List.range 8).map (memV s)).take j ++ no8.drop j).set j (memV s j)⟩ 14)) [14] SG.loc (by omega) (by decide) hJ⟩
        | 11, ho =>
          obtain rfl := Option.some.inj ho
          have e0 : a'.eval (.tmp 27) = .bool (decide (s.getD 3 0 / 2 ^ j % 2 = 1)) := by have h9 := hin 6 27 (by kernel_rfl) (by kernel_rfl); exact h9.1.trans (told_is _ h9.2 rfl)
          have e1 : a'.eval (.tmp 31) = .int .i64 (ofB 0 ((s.drop (12 + 4 * j)).take 4)) := by have h9 := hin 10 31 (by kernel_rfl) (by kernel_rfl); exact h9.1.trans (told_is _ h9.2 rfl)
          exact o_bld23 (.tmp 27) (.tmp 31) rfl _ _ e0 e1 ⟨_, rfl, told_of rfl, keepG (St := (SG w (fun S : Vw => [(b1, 28, u8s s), (b2, 26, vwC zv), (p, 26, vwC S)]) ⟨ofB 0 ((s.drop 4).take 8), decide (s.getD 1 0 = 1), s.getD 2 0, ((List.range 8).map (memV s)).take j ++ no8.drop j⟩ ⟨ofB 0 ((s.drop 4).take 8), decide (s.getD 1 0 = 1), s.getD 2 0, (((List.range 8).map (memV s)).take j ++ no8.drop j).set j (memV s j)⟩ 14)) [14] SG.loc (by omega) (by decide) hJ⟩
        | 12, ho =>
          obtain rfl := Option.some.inj ho
          have e0 := hout 3 (by kernel_rfl)
          replace e0 : a'.eval (.tmp 3) = _ := e0.trans rfl
          exact o_fld26_3 (.tmp 3) rfl p e0 ⟨_, rfl, told_of rfl, keepG (St := (SG w (fun S : Vw => [(b1, 28, u8s s), (b2, 26, vwC zv), (p, 26, vwC S)]) ⟨ofB 0 ((s.drop 4).take 8), decide (s.getD 1 0 = 1), s.getD 2 0, ((List.range 8).map (memV s)).take j ++ no8.drop j⟩ ⟨ofB 0 ((s.drop 4).take 8), decide (s.getD 1 0 = 1), s.getD 2 0, (((List.range 8).map (memV s)).take j ++ no8.drop j).set j (memV s j)⟩ 14)) [14] SG.loc (by omega) (by decide) hJ⟩
        | 13, ho =>
          obtain rfl := Option.some.inj ho
          have e0 : a'.eval (.tmp 33) = .pointer (some ⟨p, 3, none⟩) := by have h9 := hin 12 33 (by kernel_rfl) (by kernel_rfl); exact h9.1.trans (told_is _ h9.2 rfl)
          have e1 : a'.eval (.tmp 21) = .int .i64 j := by have h9 := hin 0 21 (by kernel_rfl) (by kernel_rfl); exact h9.1.trans (told_is _ h9.2 rfl)
          exact o_idx24 (.tmp 33) (.tmp 21) rfl p j (unhide HJ8) e0 e1 ⟨_, rfl, told_of rfl, keepG (St := (SG w (fun S : Vw => [(b1, 28, u8s s), (b2, 26, vwC zv), (p, 26, vwC S)]) ⟨ofB 0 ((s.drop 4).take 8), decide (s.getD 1 0 = 1), s.getD 2 0, ((List.range 8).map (memV s)).take j ++ no8.drop j⟩ ⟨ofB 0 ((s.drop 4).take 8), decide (s.getD 1 0 = 1), s.getD 2 0, (((List.range 8).map (memV s)).take j ++ no8.drop j).set j (memV s j)⟩ 14)) [14] SG.loc (by omega) (by decide) hJ⟩
        | 14, ho =>
          obtain rfl := Option.some.inj ho
          have e0 : a'.eval (.tmp 34) = .pointer (some ⟨p, 3 + j * 2, none⟩) := by have h9 := hin 13 34 (by kernel_rfl) (by kernel_rfl); exact h9.1.trans (told_is _ h9.2 rfl)
          have e1 : a'.eval (.tmp 32) = aggV (memC (memV s j)) := by have h9 := hin 11 32 (by kernel_rfl) (by kernel_rfl); exact h9.1.trans (told_is _ h9.2 rfl)
          obtain ⟨S, hM, hS0, _⟩ := hJ
          obtain rfl := hS0 hlf
          exact o_stMem (.tmp 34) (.tmp 32) rfl rfl p j _ _ e0 e1 (hM.at 2 _ rfl) (unhide HJ8) (unhide HLJ) (fun W hB hK => ⟨undef, rfl, told_no rfl, nextG (St := (SG w (fun S : Vw => [(b1, 28, u8s s), (b2, 26, vwC zv), (p, 26, vwC S)]) ⟨ofB 0 ((s.drop 4).take 8), decide (s.getD 1 0 = 1), s.getD 2 0, ((List.range 8).map (memV s)).take j ++ no8.drop j⟩ ⟨ofB 0 ((s.drop 4).take 8), decide (s.getD 1 0 = 1), s.getD 2 0, (((List.range 8).map (memV s)).take j ++ no8.drop j).set j (memV s j)⟩ 14)) (by omega) ⟨_, hM.mut 2 rfl hK hB, (fun h => by cases h), fun _ => rfl⟩⟩)
      intro l7 vs7 V7 hl hJ htold
      have t0 : vs7 0 = .int .i64 j := told_is _ (htold 0 (by decide)) rfl
      have t1 : vs7 1 = .pointer (some ⟨b1, 3, none⟩) := told_is _ (htold 1 (by decide)) rfl
      have t2 : vs7 2 = .int .u8 (s.getD 3 0) := told_is _ (htold 2 (by decide)) rfl
      have t3 : vs7 3 = .int .i64 j := told_is _ (htold 3 (by decide)) rfl
      have t4 : vs7 4 = .int .u8 (s.getD 3 0 / 2 ^ j) := told_is _ (htold 4 (by decide)) rfl
      have t5 : vs7 5 = .int .u8 (s.getD 3 0 / 2 ^ j % 2) := told_is _ (htold 5 (by decide)) rfl
      have t6 : vs7 6 = .bool (decide (s.getD 3 0 / 2 ^ j % 2 = 1)) := told_is _ (htold 6 (by decide)) rfl
      have t7 : vs7 7 = .slice (some ⟨b1, 0, none⟩) 64 64 := told_is _ (htold 7 (by decide)) rfl
      have t8 : vs7 8 = .int .i64 j := told_is _ (htold 8 (by decide)) rfl
      have t9 : vs7 9 = .slice (some ⟨b1, 12 + 4 * j, none⟩) 4 (52 - 4 * j) := told_is _ (htold 9 (by decide)) rfl
      have t10 : vs7 10 = .int .i64 (ofB 0 ((s.drop (12 + 4 * j)).take 4)) := told_is _ (htold 10 (by decide)) rfl
      have t11 : vs7 11 = aggV (memC (memV s j)) := told_is _ (htold 11 (by decide)) rfl
      have t12 : vs7 12 = .pointer (some ⟨p, 3, none⟩) := told_is _ (htold 12 (by decide)) rfl
      have t13 : vs7 13 = .pointer (some ⟨p, 3 + j * 2, none⟩) := told_is _ (htold 13 (by decide)) rfl
      rw [show (List.range 15).map vs7 = [vs7 0, vs7 1, vs7 2, vs7 3, vs7 4, vs7 5, vs7 6, vs7 7, vs7 8, vs7 9, vs7 10, vs7 11, vs7 12, vs7 13, vs7 14] from rfl]
      simp only [t0, t1, t2, t3, t4, t5, t6, t7, t8, t9, t10, t11, t12, t13, putAll, Act.put, List.setIfInBounds_toArray, List.set_cons_succ, List.set_cons_zero]
      clear t0 t1 t2 t3 t4 t5 t6 t7 t8 t9 t10 t11 t12 t13 htold
      obtain ⟨S7, hM7, _, hS7⟩ := hJ
      obtain rfl := hS7 (hl 14 (by decide))
      replace M : Hid (Mm w V7 [(b1, 28, u8s s), (b2, 26, vwC zv), (p, 26, vwC ⟨ofB 0 ((s.drop 4).take 8), decide (s.getD 1 0 = 1), s.getD 2 0, (((List.range 8).map (memV s)).take j ++ no8.drop j).set j (memV s j)⟩)]) := hide hM7
      clear hS7 hM7 hl
      go_wp2_with fail
      go_roundw
      case rel =>
        refine ⟨j + 1, by omega, by go_num, ?_⟩
        have h9 := unhide M
        rw [fill_next s j (unhide HJ8)] at h9
        exact h9
      case measure => simp [intOf]; omega
    · have hd : decide ((j : Int) < 8) = false := by simp; omega
      have h8 : j = 8 := by omega
      replace M : Hid (Mm w wr [(b1, 28, u8s s), (b2, 26, vwC zv), (p, 26, vwC (viewV s))]) := by have := unhide M; rw [h8] at this; exact this
      clear h8
      go_wp2_with (
        first
        | (refine wpLoadA row26 rfl (.tmp 3) rfl p 0 rfl (vwC (viewV s)) rfl ((unhide M).at 2 _ rfl).range ?_
           refine Stp.go ?_))
      constructor
      go_wp2_with (
        first
        | (refine wpStoreM row26 rfl (.tmp 2) (.tmp 36) rfl rfl b2 1 (vwC (viewV s)) rfl rfl rfl (vwC_one _) (unhide M) rfl rfl ?_
           intro W71 N71
           replace M : Hid (Mm w W71 [(b1, 28, u8s s), (b2, 26, vwC (viewV s)), (p, 26, vwC (viewV s))]) := hide N71
           clear N71
           refine Stp.go ?_))
      constructor
      go_wp2_with fail
      refine bodyPost_ret (res34 _ b2 (vwC (viewV s)) _ rfl rfl ((unhide M).at 1 _ rfl)) rfl ?_
      exact ⟨rfl, (unhide M).kept⟩
theorem viewV_ok {s : List Int} (hs : Byts 64 s) : (viewV s).Ok := by
  have hi : ∀ (l : List Int) (n : Int), I64 n → I64 (ofB n l) := by
    intro l
    induction l with
    | nil => intro n h; exact h
    | cons x l ih => intro n h; rw [ofB]; exact ih _ (w64_i _)
  have h0 : I64 0 := ⟨by decide, by decide⟩
  have h2 : I64 (s.getD 2 0) := by
    rw [List.getD_eq_getElem?_getD, List.getElem?_eq_getElem (by rw [hs.len]; decide)]
    have := hs.byte _ (List.getElem_mem (l := s) (n := 2) (by rw [hs.len]; decide))
    constructor <;> simp <;> omega
  refine ⟨hi _ _ h0, h2, by simp [viewV], ?_⟩
  intro m hm
  simp only [viewV, List.mem_map] at hm
  obtain ⟨i, _, rfl⟩ := hm
  exact hi _ _ h0
/-- What Get answers. -/
def getV (s : List Int) : Vw × Int := if s = zs 64 then (fv, 0) else if putV (viewV s) = (s, 0) then (viewV s, 0) else (zv, 12)
theorem putV_len (v : Vw) (h : v.ms.length = 8) : (putV v).1.length = 64 := by
  unfold putV
  split
  · simp [zs]
  · split
    · simp [zs]
    · simp only [secV]; rw [secL_len, h]
theorem get9 (s : List Int) (w : World) (hF : First w) (hs : Byts 64 s) : Calls Tryd.prog 9 #[aggV (u8s s)] w fun x w' => x = .returned (two (getV s)) ∧ Kept [] w w' := by
  unfold getV
  by_cases hz : s = zs 64
  · rw [if_pos hz]; subst hz; exact get_zero w hF
  · rw [if_neg hz]
    have hok := viewV_ok hs
    have h34 : ∀ W, First W → Calls Tryd.prog 34 #[aggV (u8s s)] W fun e w' => e = .returned (aggV (vwC (viewV s))) ∧ Kept [] W w' := fun W hW => viewin_s s W hW hs (by simpa using hz)
    have h8 : ∀ W, First W → Calls Tryd.prog 8 #[aggV (vwC (viewV s))] W fun e w' => e = .returned (.tuple #[aggV (u8s (putV (viewV s)).1), .int .i64 (putV (viewV s)).2]) ∧ Kept [] W w' := fun W hW => put8 (viewV s) W hW hok
    have hl := putV_len (viewV s) hok.len
    by_cases hc : (putV (viewV s)).2 = 0
    · by_cases he : s = (putV (viewV s)).1
      · rw [if_pos (Prod.ext he.symm hc)]
        exact get_a s _ _ _ w hF hs.len hl hok.len h34 h8 hc (by simpa using he)
      · rw [if_neg (fun h => he (by rw [h]))]
        exact get_b s _ _ _ w hF hs.len hl hok.len h34 h8 hc (by simpa using he)
    · rw [if_neg (fun h => hc (by rw [h]))]
      exact get_c s _ _ _ w hF hs.len hl hok.len h34 h8 hc

end Go.Proofs.YtbpnnbbinhdoiaaDoor
