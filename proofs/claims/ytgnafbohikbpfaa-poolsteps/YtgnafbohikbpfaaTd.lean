/-
  Going over a pool's frames: All.
-/
import Derived.Test.YtgnafbohikbpfaaTc
namespace Go.Proofs.Ytgnafbohikbpfaa
set_option maxRecDepth 100000
set_option linter.unusedSimpArgs false
open Go.RowKit Go.Shelf
attribute [local go_sem] Oper.semAt_some

theorem o_yield {l lp m k : Nat} {o : Oper} {a : Act} {w : World} {K : Act → World → Prop} {Q : Exit → Act → World → Prop} (t : Nat) (args : Array Operand) (ts : Array TypeId) (ho : o.op = .call { callee := .value (.tmp t), args := args, argTypes := ts }) (hf : a.eval (.tmp t) = .func (.yield lp) #[] #[]) (vs : Array Value) (hv : args.map a.eval = vs)
    {R : Ending → World → Prop} (hy : YieldAt Fence.wide m Try.prog lp vs w R) (hK : ∀ e w', R e w' → ∃ v, e = .returned v ∧ K (a.put o.dst v) w') : o.wpIn (Fence.wide.inRound l) k Try.prog a w K Q := by
  obtain ⟨fn, tmps, assign, body, hr, hR⟩ := hy
  subst hv
  refine ⟨fun f _ => trivial, ?_⟩
  rw [Fence.inRound_round, Oper.semAt_some l _ o (fun c e => by rw [ho] at e; cases e)]
  unfold execOp
  simp only [ho, resolve, hf]
  simp [invoke, go_sem, hr]
  refine ⟨?_, hR.1, fun c cs _ => ?_⟩
  · intro h; simp [Fence.wide] at h
  · obtain ⟨e, w', hre, hs⟩ := hR.2 c cs (room_wide _)
    obtain ⟨v, rfl, hk⟩ := hK e w' hre
    exact ⟨.returned v, w', hk, hs⟩

theorem inYield {l lp m k : Nat} {ops : Array Oper} {rest : List Oper} {o : Oper} {a : Act} {w : World} {Q : Exit → Act → World → Prop} (hw : Region.wanted o (yielded ops a.tmps) = true) (t : Nat) (args : Array Operand) (ts : Array TypeId) (ho : o.op = .call { callee := .value (.tmp t), args := args, argTypes := ts }) (hf : a.eval (.tmp t) = .func (.yield lp) #[] #[]) (vs : Array Value) (hv : args.map a.eval = vs)
    {R : Ending → World → Prop} (hy : YieldAt Fence.wide m Try.prog lp vs w R) (hK : ∀ e w', R e w' → ∃ v, e = .returned v ∧ wpListIn (Fence.wide.inRound l) k Try.prog ops Q rest (a.put o.dst v) w') : wpListIn (Fence.wide.inRound l) k Try.prog ops Q (o :: rest) a w :=
  wpListIn_want hw (o_yield t args ts ho hf vs hv hy hK)
variable {w0 w W W' V : World} {b mb c : Nat} {P : Po} {L : List En}
set_option maxHeartbeats 4000000 in
theorem all49_in (n : Nat) (l : Nat) (X : List Nat) (hX : ∀ k ∈ X, k < V.heap.size) (hc : Blk V c 23 [P0 b]) (hP : Pg V b mb P L) : ItX (n + 1) 49 c (allC P) V l X := by
  intro J Jx hJ hJx hY h0
  have hFw := wideF
  have HC := hide hc
  have HP := hide hP
  have HX := hide hX
  have HJ := hide hJ
  have HJX := hide hJx
  have HY := hide hY
  have H0 := hide h0
  clear hc hP hX hJ hJx hY h0
  refine callsIn_of_wp_marks Try.func49 rfl trivial ?_ rfl
  simp only [Try.ntmps49, List.size_toArray, List.length_cons, List.length_nil, Nat.reduceAdd, Nat.reduceSub, Array.replicate_succ, Array.replicate_zero, List.push_toArray, List.append_toArray, List.nil_append, List.cons_append]
  rw [wpIn_wide]
  go_wp2_with (
    first
    | (refine wpBoxY rfl (.tmp 0) rfl l rfl ?_
       intro W1 b4 e1 B1 K1
       have HK := hide K1
       have HB4 := hide B1
       have HG4 : Hid (V.heap.size ≤ b4) := by show _ ≤ _; omega
       clear e1 B1 K1
       refine Stp.go ?_))
  constructor
  go_wp2_with (
    first
    | (refine wpLd23 rfl (.tmp 1) rfl ⟨c, 0, none⟩ (P0 b) rfl ((unhide HK).cell (fits_cell (unhide HC) 0 _ rfl) (by simp)) ?_
       refine Stp.go ?_))
  constructor
  go_wp2_with (
    first
    | (go_at_call 23
       refine (copy23 ((unhide HP).step (unhide HK) (by simp) (by simp))).mono ?_
       rintro e W2 ⟨b2, m2, rfl, h1, h2, o2, K2⟩
       have HP2 := hide o2
       have HG1 : Hid (V.heap.size ≤ b2 ∧ V.heap.size ≤ m2) := ⟨Nat.le_trans (unhide HK).size h1, Nat.le_trans (unhide HK).size h2⟩
       replace HB4 := hide ((unhide HB4).kept K2 (by simp))
       replace HK := hide ((unhide HK).trans K2)
       clear h1 h2 o2 K2
       refine Stp.go ?_))
  constructor
  go_wp2_with (
    first
    | (go_at_call 50
       refine (rising50 (some ⟨b2, 0, none⟩) _).mono ?_
       rintro e W3 ⟨c2, rfl, hb2, hg2, K3⟩
       unfold fnV
       have HB2 := hide hb2
       have HG2 : Hid (V.heap.size ≤ c2) := Nat.le_trans (unhide HK).size hg2
       replace HP2 := hide ((unhide HP2).step K3 (by simp) (by simp))
       replace HB4 := hide ((unhide HB4).kept K3 (by simp))
       replace HK := hide ((unhide HK).trans K3)
       clear hb2 hg2 K3
       refine Stp.go ?_))
  constructor
  go_wp2_with fail
  rw [← wpIn_wide (n := n + 1)]
  refine wp_rangeX n 55 c2 (allC P) X rfl cg55 rfl (fun k hk => Nat.lt_of_lt_of_le (unhide HX k hk) (unhide HK).size) (fun V' hk hs => (rising55_2 (W3.heap.size + 1) ((W3.heap.size + 1) :: X) ((unhide HB2).kept hk (by simp)) ((unhide HP2).step hk (by simp) (by simp)) ?c2 ?b2 ?m2).any)
    (fun k W => J k W ∧ Blk W b4 88 [.func (.yield l) #[] #[]]) (fun cd k W => cd = .ret ∧ Jx k W) ?hI ?hIx ?h0
    (fun k a' W => ∃ x bx, (allC P)[k]? = some x ∧ Blk W bx 39 x ∧ bx ≠ W3.heap.size + 1 ∧ a' = { tmps := #[.func (.yield l) #[] #[], P0 c, P0 b4, P0 bx, P0 b, P0 b2, .func (.func 55) #[] #[P0 c2], aggV x, undef, undef, undef, undef], defers := [] }) ?hFr ?hassign ?hbody ?hdone ?hstop
  case c2 =>
    have h1 := (unhide HB2).lt
    have h2 := unhide HG2
    intro e
    rcases List.mem_cons.1 e with e | e
    · omega
    · have := unhide HX _ e; omega
  case b2 =>
    have h1 := (unhide HP2).blk.lt
    have h2 := unhide HG1
    intro e
    rcases List.mem_cons.1 e with e | e
    · omega
    · have := unhide HX _ e; omega
  case m2 =>
    have h1 := (unhide HP2).map.lt
    have h2 := unhide HG1
    intro e
    rcases List.mem_cons.1 e with e | e
    · omega
    · have := unhide HX _ e; omega
  case hI =>
    rintro k A B Z ⟨h1, h2⟩ hk hz
    refine ⟨unhide HJ _ _ _ _ h1 hk (fun i hi => Nat.le_trans (unhide HK).size (hz i hi)), h2.kept hk (fun e => ?_)⟩
    have := hz _ e
    have := (unhide HB4).lt
    omega
  case hIx =>
    rintro cd k A B Z ⟨h1, h2⟩ hk hz
    exact ⟨h1, unhide HJX _ _ _ _ h2 hk (fun i hi => Nat.le_trans (unhide HK).size (hz i hi))⟩
  case h0 => exact ⟨unhide HJ _ _ _ _ (unhide H0) (unhide HK) (by simp), unhide HB4⟩
  case hFr =>
    rintro k a' A B ⟨x, bx, h1, h2, h3, h4⟩ hk
    exact ⟨x, bx, h1, h2.kept hk (by simpa using h3), h3, h4⟩
  case hassign =>
    intro l2 k x W K hx hI hsz hK
    have HSZ := hide hsz
    have HXK := hide hx
    have HXL : Hid (x.length = 102 ∧ ∀ v ∈ x, v.oneCell' = true) := by
      obtain ⟨f, _, e⟩ := List.mem_map.1 (List.mem_of_getElem? hx)
      rw [← e]
      exact ⟨f.len, f.one⟩
    obtain ⟨zc, hzc⟩ : ∃ c, c = fr0.C := ⟨_, rfl⟩
    have HLZ : Hid (zc.length = 102) := by show _ = _; rw [hzc, Fr.len]
    have HZ39 : Hid (∀ w : World, (Instr.alloc 39 true (.tuple #[])).run Try.prog w = .ok (P0 w.heap.size) (w.alloc (.cells zc.toArray 39))) := by rw [hzc]; exact zero39
    clear hx hsz hI hzc
    simp only [List.zip_toArray, List.zip_cons_cons, List.zip_nil_right, List.foldl_toArray, List.foldl_cons, List.foldl_nil, List.setIfInBounds_toArray, List.set_cons_succ, List.set_cons_zero]
    gi_wp2_with (
      first
      | (refine inNew row39 zc (unhide HLZ) (unhide HZ39) 3 (by rfl) (fun _ => trivial) (by rfl) (by rfl) (by rfl) (.tmp 7) (by rfl) (by rfl) (fun _ => by rfl) (by rfl) x (unhide HXL).1 (unhide HXL).2 (by rfl) (by rfl) ?_
         intro W9 bx ex BX KX
         have HBX := hide BX
         have HKX := hide KX
         have HEX : Hid (bx ≠ W3.heap.size + 1) := by show _ ≠ _; have := unhide HSZ; omega
         clear ex BX KX)
      | fail)
    exact hK _ _ (unhide HKX) ⟨x, bx, unhide HXK, unhide HBX, unhide HEX, rfl⟩
  case hbody =>
    rintro l2 k y a' W hy0 ⟨hJ1, hB1⟩ ⟨x, bx, hx, hBx, _, rfl⟩ hsz
    have hx2 : (allC P)[k]? = some x := hx
    rw [hy0] at hx2
    obtain rfl := Option.some.inj hx2
    have HY2 := hide (unhide HY k y W hx hJ1 (by have := (unhide HK).size; omega))
    have HXL : Hid (y.length = 102) := by
      obtain ⟨f, _, e⟩ := List.mem_map.1 (List.mem_of_getElem? hx)
      rw [← e]
      exact f.len
    have HBX := hide hBx
    have HB9 := hide hB1
    have c4 := fits_cell hB1 0 _ rfl
    clear hy0 hx hx2 hBx hB1 hJ1
    gi_wp2_with (
      first
      | (refine inLoadA row39 wideF (by rfl) (.tmp 3) (by rfl) (by rfl) bx 0 (by rfl) y (unhide HXL) (unhide HBX).range ?_
         refine Stp.go ?_))
    constructor
    refine inYield (by rfl) 8 #[.tmp 9] #[39] (by rfl) (by rfl) #[aggV y] (by simp; rfl) (unhide HY2) ?_
    rintro e W8 ⟨K8, ⟨rfl, hI8⟩ | ⟨rfl, hX8⟩⟩
    · refine ⟨_, rfl, ?_⟩
      have HI8 := hide hI8
      have HK8 := hide K8
      clear hI8 K8 HY2
      gi_wp2_with fail
      refine ⟨unhide HK8, unhide HI8, (unhide HB9).kept (unhide HK8) (fun e => ?_)⟩
      have := unhide HX _ e
      have := unhide HG4
      omega
    · refine ⟨_, rfl, ?_⟩
      have HX8 := hide hX8
      have HK8 := hide K8
      clear hX8 K8 HY2
      gi_wp2_with fail
      exact ⟨unhide HK8, rfl, unhide HX8⟩
  case hdone =>
    intro Wd kD hsz hI hD
    have HKD := hide ((unhide HK).mono (Y := X) (by simp) |>.trans kD)
    have HD := hide hD
    have HI := hide hI.1
    have HS3 : Hid (V.heap.size ≤ W3.heap.size) := (unhide HK).size
    clear kD hsz hI hD
    go_wp2_with fail
    refine (show LeavesInM Fence.wide (n + 1) Try.prog Try.f49 _ _ [{ target := .collected W3.heap.size, args := #[] }] .returning Wd from ?_)
    refine ⟨by simp, .inl ⟨_, _, rfl, run_takeDeferred (unhide HD), ?_⟩⟩
    refine ⟨_, results_none rfl _ _ _, ⟨_, rfl⟩, ?_, .inl (unhide HJ _ _ _ _ (unhide HI) (Kept.put1 (l := W3.heap.size)) (by intro i hi; simp at hi; subst hi; exact unhide HS3))⟩
    exact ((unhide HKD).mono (Y := W3.heap.size :: X) (fun i hi => List.mem_cons_of_mem _ hi)).trans (Kept.put1.mono (by simp)) |>.cut (fun i hi hl => by
      rcases List.mem_cons.1 hi with e | e
      · have := unhide HS3; omega
      · exact e)
  case hstop =>
    rintro cd k Wd hk kD hsz ⟨rfl, hX8⟩ hD
    have HKD := hide ((unhide HK).mono (Y := X) (by simp) |>.trans kD)
    have HD := hide hD
    have HI := hide hX8
    have HKK := hide hk
    have HS3 : Hid (V.heap.size ≤ W3.heap.size) := (unhide HK).size
    clear kD hsz hX8 hD hk
    rw [wpIn_wide]
    go_wp2_with fail
    refine (show LeavesInM Fence.wide (n + 1) Try.prog Try.f49 _ _ [{ target := .collected W3.heap.size, args := #[] }] .returning Wd from ?_)
    refine ⟨by simp, .inl ⟨_, _, rfl, run_takeDeferred (unhide HD), ?_⟩⟩
    refine ⟨_, results_none rfl _ _ _, ⟨_, rfl⟩, ?_, .inr ⟨k, unhide HKK, unhide HJX _ _ _ _ (unhide HI) (Kept.put1 (l := W3.heap.size)) (by intro i hi; simp at hi; subst hi; exact unhide HS3)⟩⟩
    exact ((unhide HKD).mono (Y := W3.heap.size :: X) (fun i hi => List.mem_cons_of_mem _ hi)).trans (Kept.put1.mono (by simp)) |>.cut (fun i hi hl => by
      rcases List.mem_cons.1 hi with e | e
      · have := unhide HS3; omega
      · exact e)

end Go.Proofs.Ytgnafbohikbpfaa
