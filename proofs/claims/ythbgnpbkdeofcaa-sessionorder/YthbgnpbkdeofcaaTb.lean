/-
  A datagram comes to one of both ends.
-/
import Derived.Test.YthbgnpbkdeofcaaTa
namespace Go.Proofs.Ythbgnpbkdeofcaa
set_option maxRecDepth 100000
open Go.RowKit

section
variable {o : Oper} {a : Act} {w : World} {K : Act → World → Prop} {Q : Exit → Act → World → Prop}
theorem o_ext (x : Operand) (k : Nat) (ho : o.op = .extract x k) (vs : Array Value) (v : Value) (hx : a.eval x = .tuple vs) (hv : vs[k]? = some v) (h : K (a.put o.dst v) w) : o.wp Try.prog a w K Q := by
  unfold Oper.wp execOp
  simp only [ho, hx]
  simp [go_sem, hv]
  exact h
theorem o_fld54_0 (x : Operand) (ho : o.op = .fieldAddr 54 x 0) (b : Nat) (hx : a.eval x = P0 b) (h : K (a.put o.dst (.pointer (some ⟨b, 0, none⟩))) w) : o.wp Try.prog a w K Q := by
  unfold Oper.wp execOp
  simp only [ho, hx]
  simp [go_sem]
  exact h
theorem o_fld54_1 (x : Operand) (ho : o.op = .fieldAddr 54 x 1) (b : Nat) (hx : a.eval x = P0 b) (h : K (a.put o.dst (.pointer (some ⟨b, 2, none⟩))) w) : o.wp Try.prog a w K Q := by
  unfold Oper.wp execOp
  simp only [ho, hx]
  simp [go_sem]
  exact h
theorem o_fld54_2 (x : Operand) (ho : o.op = .fieldAddr 54 x 2) (b : Nat) (hx : a.eval x = P0 b) (h : K (a.put o.dst (.pointer (some ⟨b, 3, none⟩))) w) : o.wp Try.prog a w K Q := by
  unfold Oper.wp execOp
  simp only [ho, hx]
  simp [go_sem]
  exact h
theorem o_fld54_3 (x : Operand) (ho : o.op = .fieldAddr 54 x 3) (b : Nat) (hx : a.eval x = P0 b) (h : K (a.put o.dst (.pointer (some ⟨b, 5, none⟩))) w) : o.wp Try.prog a w K Q := by
  unfold Oper.wp execOp
  simp only [ho, hx]
  simp [go_sem]
  exact h
theorem o_idx51 (x y : Operand) (ho : o.op = .indexAddr 51 x y) (g off i : Nat) (hi : i < 2) (hx : a.eval x = .pointer (some ⟨g, off, none⟩)) (hy : a.eval y = .int .i64 i) (h : K (a.put o.dst (.pointer (some ⟨g, off + i, none⟩))) w) : o.wp Try.prog a w K Q := by
  have h2 : i = 0 ∨ i = 1 := by omega
  unfold Oper.wp execOp
  simp only [ho, hx, hy]
  rcases h2 with rfl | rfl
  · simp [go_sem, Addr.add_lit]
    exact h
  · simp [go_sem, Addr.add_lit]
    exact h
theorem o_idx52 (x y : Operand) (ho : o.op = .indexAddr 52 x y) (g off i : Nat) (hi : i < 2) (hx : a.eval x = .pointer (some ⟨g, off, none⟩)) (hy : a.eval y = .int .i64 i) (h : K (a.put o.dst (.pointer (some ⟨g, off + i, none⟩))) w) : o.wp Try.prog a w K Q := by
  have h2 : i = 0 ∨ i = 1 := by omega
  unfold Oper.wp execOp
  simp only [ho, hx, hy]
  rcases h2 with rfl | rfl
  · simp [go_sem, Addr.add_lit]
    exact h
  · simp [go_sem, Addr.add_lit]
    exact h
end
def fstV : Value → Value
  | .tuple vs => vs.getD 0 undef
  | _ => undef
def sndV : Value → Value
  | .tuple vs => vs.getD 1 undef
  | _ => undef
/-- Bodies, datagrams and moves stay. -/
structure Kt (A B : World) : Prop where
  size : A.heap.size ≤ B.heap.size
  block : ∀ (k : Nat) (cs : Array Value) (T : TypeId) (p : Nat × Nat), T = 5 ∨ T = 35 ∨ T = 56 → A.heap[k]? = some (.cells cs T p) → B.heap[k]? = some (.cells cs T p)
theorem Kt.trans {A B C : World} (h : Kt A B) (k : Kt B C) : Kt A C := ⟨Nat.le_trans h.size k.size, fun i cs T p hT hi => k.block i cs T p hT (h.block i cs T p hT hi)⟩
theorem Kt.refl (A : World) : Kt A A := ⟨Nat.le_refl _, fun _ _ _ _ _ h => h⟩
theorem Kt.of_kept {A B : World} (h : Kept [] A B) : Kt A B := ⟨h.size, fun _ _ _ _ _ hi => h.heap hi (by simp)⟩
theorem Kt.of_sr {W W' : World} {b : Nat} {v v' : Value} {ws ws' : List Value} {P P' : Ps} (h : SR W b v ws W' v' ws' P') (hs : Sx W b v ws P) : Kt W W' := ⟨h.kept.size, fun k cs T p hT hk => h.kept.heap hk (hs.notin hk (by rcases hT with rfl | rfl | rfl <;> decide) (by rcases hT with rfl | rfl | rfl <;> decide))⟩
theorem Bod.kt {A B : World} {u : Value} {bs : List Int} (h : Bod A u bs) (hk : Kt A B) : Bod B u bs := by
  refine ⟨⟨h.own.1, ?_⟩, h.byte⟩
  rcases h.own.2 with h2 | ⟨g, cap, cur, h1, h2, h3, h4⟩
  · exact .inl h2
  · exact .inr ⟨g, cap, cur, h1, h2, hk.block g _ _ _ (.inl rfl) h3, h4⟩
theorem Dl.kt {A C : World} {B : Nat} {v : Value} {L : List (Dg × Value)} (h : Dl A B v L) (hk : Kt A C) : Dl C B v L := by
  refine ⟨⟨h.row.1, ?_⟩, fun p hp => (h.bod p hp).kt hk, h.new⟩
  rcases h.row.2 with h2 | ⟨g, cap, cur, h1, h2, h3, h4⟩
  · exact .inl h2
  · exact .inr ⟨g, cap, cur, h1, h2, hk.block g _ _ _ (.inr (.inl rfl)) h3, h4⟩
@[reducible] def S25 (V : World) (b : Nat) (v : Value) (ws : List Value) (P : Ps) (D : Dg) (d : Nat → Bool) (vs : Nat → Value) (W : World) : Prop :=
  (d 8 = false → Kept [] V W) ∧ (d 8 = true → CR V b v ws P D (.returned (vs 8)) W) ∧ (d 9 = true → vs 9 = vs 8 ∧ d 8 = true) ∧ (d 10 = true → vs 10 = fstV (vs 8)) ∧ (d 11 = true → vs 11 = sndV (vs 8)) ∧ (d 12 = true → vs 12 = vs 10) ∧ (d 13 = true → vs 13 = vs 11)
theorem S25.loc {V : World} {b : Nat} {v : Value} {ws : List Value} {P : Ps} {D : Dg} : ∀ d d' vs vs' W, (∀ i ∈ [8, 9, 10, 11, 12, 13], d i = d' i ∧ vs i = vs' i) → S25 V b v ws P D d vs W → S25 V b v ws P D d' vs' W := by
  intro d d' vs vs' W H h
  have e0 := H 8 (by simp)
  have e1 := H 9 (by simp)
  have e2 := H 10 (by simp)
  have e3 := H 11 (by simp)
  have e4 := H 12 (by simp)
  have e5 := H 13 (by simp)
  unfold S25 at h ⊢
  rw [← e0.1, ← e0.2, ← e1.1, ← e1.2, ← e2.1, ← e2.2, ← e3.1, ← e3.2, ← e4.1, ← e4.2, ← e5.1, ← e5.2]
  exact h
theorem twC_s {pt : Nat → Nat} {onv : Value} {st ou : Nat → Value} {i : Nat} (hi : i < 2) : (twC pt onv st ou)[i]? = some (P0 (pt i)) := by
  have h2 : i = 0 ∨ i = 1 := by omega
  rcases h2 with rfl | rfl <;> rfl
theorem twC_st {pt : Nat → Nat} {onv : Value} {st ou : Nat → Value} {i : Nat} (hi : i < 2) : (twC pt onv st ou)[3 + i]? = some (st i) := by
  have h2 : i = 0 ∨ i = 1 := by omega
  rcases h2 with rfl | rfl <;> rfl
theorem twC_ou {pt : Nat → Nat} {onv : Value} {st ou : Nat → Value} {i : Nat} (hi : i < 2) : (twC pt onv st ou)[5 + i]? = some (ou i) := by
  have h2 : i = 0 ∨ i = 1 := by omega
  rcases h2 with rfl | rfl <;> rfl
theorem upd_self {α : Type} (f : Nat → α) (i : Nat) : upd f i (f i) = f := by
  funext j
  unfold upd
  split
  · next e => rw [e]
  · rfl
set_option maxHeartbeats 2000000 in
theorem come25_no (w W : World) (z : Nat) (pt : Nat → Nat) (sv : Nat → Value) (sw : Nat → List Value) (sp : Nat → Ps) (onv : Value) (D : List (Dg × Value)) (st ou : Nat → Value) (L M : Nat → List (List Int)) (h : Tt w W z pt sv sw sp onv D st ou L M) (d : Dg) (u : Value) (hB : Bod W u d.bs) (i : Nat) (hi : i < 2) (hd : d.to = i) (hn : ((sp i).come d).2 = none) : Calls Try.prog 25 #[P0 z, aggV (d.C u)] W fun e W' => e = .returned (.tuple #[]) ∧ Kt W W' ∧ ∃ v' ws', Tt w W' z pt (upd sv i v') (upd sw i ws') (upd sp i ((sp i).come d).1) onv D st ou L M := by
  have HNO := hide hn
  clear hn
  have HI := hide hi
  have HT := hide h
  have HB0 := hide hB
  have HDT := hide hd
  clear h hB hd
  go_enter Try.func25, Try.ntmps25
  go_wp2_with (
    first
    | (refine wpBoxV (by rfl) (.tmp 1) (by rfl) (d.C u) (by kernel_rfl) ?_
       intro W1 p e1 B1 K1
       have HP := hide B1
       have HK := hide K1
       replace HT := hide ((unhide HT).step K1)
       have HB := hide ((unhide HB0).kept K1 (by simp))
       have hp1 := fits_cell B1 1 _ rfl
       rw [unhide HDT] at hp1
       clear e1 B1 K1
       refine Stp.go ?_))
  constructor
  have hi0 : ¬ (i : Int) < 0 := by omega
  have hi1 : ¬ (1 : Int) < (i : Int) := by omega
  have HS := hide ((unhide HT).s i hi)
  have HC0 : Hid (W1.cell? ⟨z, 0 + i, none⟩ = some (P0 (pt i))) := by rw [Nat.zero_add]; exact fits_cell (unhide HT).hd i _ (twC_s hi)
  go_wp2_with fail
  refine wp_region_any mixed (wpAny_gx 14 rfl (by kernel_rfl) [some (P0 z), some (.pointer (some ⟨p, 1, none⟩)), some (.int .i64 i), some (P0 z), some (.pointer (some ⟨z, 0, none⟩)), some (.pointer (some ⟨z, 0 + i, none⟩)), some (P0 (pt i)), some (aggV (d.C u)), none, none, none, none, none, none] rfl (by kernel_rfl) (fun l vs W => (S25 W1 (pt i) (sv i) (sw i) (sp i) d) (fun i => l.getD i false) vs W) (⟨fun _ => ⟨rfl, rfl, rfl, Nat.le_refl _, fun _ _ _ => rfl⟩, (fun h => by cases h), (fun h => by cases h), (fun h => by cases h), (fun h => by cases h), (fun h => by cases h), (fun h => by cases h)⟩) ?_ ?_)
  · intro ix o' hi ho a' w2 l vs hls hlf hJ hout hin hdep hnot
    match ix, ho with
    | 0, ho =>
      obtain rfl := Option.some.inj ho
      have e0 := hout 0 (by kernel_rfl)
      replace e0 : a'.eval (.tmp 0) = _ := e0.trans rfl
      exact wp_move (.tmp 0) rfl _ e0 ⟨_, rfl, told_of rfl, keepG (St := (S25 W1 (pt i) (sv i) (sw i) (sp i) d)) [8, 9, 10, 11, 12, 13] S25.loc (by omega) (by decide) hJ⟩
    | 1, ho =>
      obtain rfl := Option.some.inj ho
      have e0 := hout 3 (by kernel_rfl)
      replace e0 : a'.eval (.tmp 3) = _ := e0.trans rfl
      exact o_fld35_1 (.tmp 3) rfl _ e0 ⟨_, rfl, told_of rfl, keepG (St := (S25 W1 (pt i) (sv i) (sw i) (sp i) d)) [8, 9, 10, 11, 12, 13] S25.loc (by omega) (by decide) hJ⟩
    | 2, ho =>
      obtain rfl := Option.some.inj ho
      have e0 : a'.eval (.tmp 16) = .pointer (some ⟨p, 1, none⟩) := by have h9 := hin 1 16 (by kernel_rfl) (by kernel_rfl); exact h9.1.trans (told_is _ h9.2 rfl)
      exact o_load3 (.tmp 16) rfl _ _ e0 (by have h9 := fits_cell ((unhide HP).kept (hJ.1 (hnot 8 (by kernel_rfl))) (by simp)) 1 _ rfl; rw [h9, unhide HDT]) ⟨_, rfl, told_of rfl, keepG (St := (S25 W1 (pt i) (sv i) (sw i) (sp i) d)) [8, 9, 10, 11, 12, 13] S25.loc (by omega) (by decide) hJ⟩
    | 3, ho =>
      obtain rfl := Option.some.inj ho
      have e0 : a'.eval (.tmp 15) = P0 z := by have h9 := hin 0 15 (by kernel_rfl) (by kernel_rfl); exact h9.1.trans (told_is _ h9.2 rfl)
      exact o_nil (.tmp 15) rfl _ e0 ⟨_, rfl, told_of rfl, keepG (St := (S25 W1 (pt i) (sv i) (sw i) (sp i) d)) [8, 9, 10, 11, 12, 13] S25.loc (by omega) (by decide) hJ⟩
    | 4, ho =>
      obtain rfl := Option.some.inj ho
      have e0 : a'.eval (.tmp 18) = P0 z := by have h9 := hin 3 18 (by kernel_rfl) (by kernel_rfl); exact h9.1.trans (told_is _ h9.2 rfl)
      exact o_fld54_0 (.tmp 18) rfl _ e0 ⟨_, rfl, told_of rfl, keepG (St := (S25 W1 (pt i) (sv i) (sw i) (sp i) d)) [8, 9, 10, 11, 12, 13] S25.loc (by omega) (by decide) hJ⟩
    | 5, ho =>
      obtain rfl := Option.some.inj ho
      have e0 : a'.eval (.tmp 19) = .pointer (some ⟨z, 0, none⟩) := by have h9 := hin 4 19 (by kernel_rfl) (by kernel_rfl); exact h9.1.trans (told_is _ h9.2 rfl)
      have e1 : a'.eval (.tmp 17) = .int .i64 i := by have h9 := hin 2 17 (by kernel_rfl) (by kernel_rfl); exact h9.1.trans (told_is _ h9.2 rfl)
      exact o_idx51 (.tmp 19) (.tmp 17) rfl z 0 i (unhide HI) e0 e1 ⟨_, rfl, told_of rfl, keepG (St := (S25 W1 (pt i) (sv i) (sw i) (sp i) d)) [8, 9, 10, 11, 12, 13] S25.loc (by omega) (by decide) hJ⟩
    | 6, ho =>
      obtain rfl := Option.some.inj ho
      have e0 : a'.eval (.tmp 20) = .pointer (some ⟨z, 0 + i, none⟩) := by have h9 := hin 5 20 (by kernel_rfl) (by kernel_rfl); exact h9.1.trans (told_is _ h9.2 rfl)
      exact o_load23 (.tmp 20) rfl _ _ e0 ((hJ.1 (hnot 8 (by kernel_rfl))).cell (unhide HC0) (by simp)) ⟨_, rfl, told_of rfl, keepG (St := (S25 W1 (pt i) (sv i) (sw i) (sp i) d)) [8, 9, 10, 11, 12, 13] S25.loc (by omega) (by decide) hJ⟩
    | 7, ho =>
      obtain rfl := Option.some.inj ho
      have e0 := hout 3 (by kernel_rfl)
      replace e0 : a'.eval (.tmp 3) = _ := e0.trans rfl
      exact wp_loadA row35 (.tmp 3) rfl p 0 e0 (d.C u) rfl ((unhide HP).kept (hJ.1 (hnot 8 (by kernel_rfl))) (by simp)).range ⟨_, rfl, told_of rfl, keepG (St := (S25 W1 (pt i) (sv i) (sw i) (sp i) d)) [8, 9, 10, 11, 12, 13] S25.loc (by omega) (by decide) hJ⟩
    | 8, ho =>
      obtain rfl := Option.some.inj ho
      have e0 : a'.eval (.tmp 21) = P0 (pt i) := by have h9 := hin 6 21 (by kernel_rfl) (by kernel_rfl); exact h9.1.trans (told_is _ h9.2 rfl)
      have e1 : a'.eval (.tmp 22) = aggV (d.C u) := by have h9 := hin 7 22 (by kernel_rfl) (by kernel_rfl); exact h9.1.trans (told_is _ h9.2 rfl)
      have hk0 := hJ.1 hlf
      refine wp_callF 20 _ _ rfl #[P0 (pt i), aggV (d.C u)] (by simp [e0, e1]) (cf20 _ _) ((come20b (pt i) (sv i) (sw i) (sp i) d u _ ((unhide HS).kept0 hk0) ((unhide HB).kept hk0 (by simp))).mono ?_)
      rintro e w3 ⟨v', ws', r', rfl, hR, hBr, hfr⟩
      exact ⟨_, rfl, _, rfl, told_no rfl, nextG (St := (S25 W1 (pt i) (sv i) (sw i) (sp i) d)) (by omega) ⟨(fun h => by cases h), fun _ => ⟨v', ws', r', rfl, hR.after hk0, hBr, fun k e => by have := hfr k e; have := hk0.size; omega⟩, (fun h9 => by have h9 : l.getD 9 false = true := h9; rw [hnot 9 (by kernel_rfl)] at h9; cases h9), (fun h10 => by have h9 : l.getD 10 false = true := h10; rw [hnot 10 (by kernel_rfl)] at h9; cases h9), (fun h11 => by have h9 : l.getD 11 false = true := h11; rw [hnot 11 (by kernel_rfl)] at h9; cases h9), (fun h12 => by have h9 : l.getD 12 false = true := h12; rw [hnot 12 (by kernel_rfl)] at h9; cases h9), (fun h13 => by have h9 : l.getD 13 false = true := h13; rw [hnot 13 (by kernel_rfl)] at h9; cases h9)⟩⟩
    | 9, ho =>
      obtain rfl := Option.some.inj ho
      have e0 : a'.eval (.tmp 23) = vs 8 := (hin 8 23 (by kernel_rfl) (by kernel_rfl)).1
      have hd8 := hdep 8 (by kernel_rfl)
      exact wp_move (.tmp 23) rfl _ e0 ⟨_, rfl, told_no rfl, nextG (St := (S25 W1 (pt i) (sv i) (sw i) (sp i) d)) (by omega) ⟨(fun h9 => by have h8 : l.getD 8 false = false := h9; rw [hd8] at h8; cases h8), fun _ => hJ.2.1 hd8, fun _ => ⟨rfl, hd8⟩, (fun h10 => by have h9 : l.getD 10 false = true := h10; rw [hnot 10 (by kernel_rfl)] at h9; cases h9), (fun h11 => by have h9 : l.getD 11 false = true := h11; rw [hnot 11 (by kernel_rfl)] at h9; cases h9), (fun h12 => by have h9 : l.getD 12 false = true := h12; rw [hnot 12 (by kernel_rfl)] at h9; cases h9), (fun h13 => by have h9 : l.getD 13 false = true := h13; rw [hnot 13 (by kernel_rfl)] at h9; cases h9)⟩⟩
    | 10, ho =>
      obtain rfl := Option.some.inj ho
      have e0 : a'.eval (.tmp 14) = vs 9 := (hin 9 14 (by kernel_rfl) (by kernel_rfl)).1
      obtain ⟨h9a, hd8⟩ := hJ.2.2.1 (hdep 9 (by kernel_rfl))
      replace hd8 : l.getD 8 false = true := hd8
      obtain ⟨v', ws', r', he, hrest⟩ := hJ.2.1 hd8
      injection he with he
      exact o_ext (.tmp 14) 0 rfl _ _ (e0.trans (h9a.trans he)) rfl ⟨_, rfl, told_no rfl, nextG (St := (S25 W1 (pt i) (sv i) (sw i) (sp i) d)) (by omega) ⟨(fun h9 => by have h8 : l.getD 8 false = false := h9; rw [hd8] at h8; cases h8), fun _ => hJ.2.1 hd8, fun _ => ⟨h9a, hd8⟩, fun _ => (by show r' = fstV (vs 8); rw [he]; rfl), hJ.2.2.2.2.1, (fun h12 => by have h9 : l.getD 12 false = true := h12; rw [hnot 12 (by kernel_rfl)] at h9; cases h9), hJ.2.2.2.2.2.2⟩⟩
    | 11, ho =>
      obtain rfl := Option.some.inj ho
      have e0 : a'.eval (.tmp 14) = vs 9 := (hin 9 14 (by kernel_rfl) (by kernel_rfl)).1
      obtain ⟨h9a, hd8⟩ := hJ.2.2.1 (hdep 9 (by kernel_rfl))
      replace hd8 : l.getD 8 false = true := hd8
      obtain ⟨v', ws', r', he, hrest⟩ := hJ.2.1 hd8
      injection he with he
      exact o_ext (.tmp 14) 1 rfl _ _ (e0.trans (h9a.trans he)) rfl ⟨_, rfl, told_no rfl, nextG (St := (S25 W1 (pt i) (sv i) (sw i) (sp i) d)) (by omega) ⟨(fun h9 => by have h8 : l.getD 8 false = false := h9; rw [hd8] at h8; cases h8), fun _ => hJ.2.1 hd8, fun _ => ⟨h9a, hd8⟩, hJ.2.2.2.1, fun _ => (by show _ = sndV (vs 8); rw [he]; rfl), hJ.2.2.2.2.2.1, (fun h13 => by have h9 : l.getD 13 false = true := h13; rw [hnot 13 (by kernel_rfl)] at h9; cases h9)⟩⟩
    | 12, ho =>
      obtain rfl := Option.some.inj ho
      have e0 : a'.eval (.tmp 24) = vs 10 := (hin 10 24 (by kernel_rfl) (by kernel_rfl)).1
      exact wp_assignV (.tmp 24) rfl _ e0 ⟨_, rfl, told_no rfl, nextG (St := (S25 W1 (pt i) (sv i) (sw i) (sp i) d)) (by omega) ⟨hJ.1, hJ.2.1, hJ.2.2.1, hJ.2.2.2.1, hJ.2.2.2.2.1, fun _ => rfl, hJ.2.2.2.2.2.2⟩⟩
    | 13, ho =>
      obtain rfl := Option.some.inj ho
      have e0 : a'.eval (.tmp 25) = vs 11 := (hin 11 25 (by kernel_rfl) (by kernel_rfl)).1
      exact wp_assignV (.tmp 25) rfl _ e0 ⟨_, rfl, told_no rfl, nextG (St := (S25 W1 (pt i) (sv i) (sw i) (sp i) d)) (by omega) ⟨hJ.1, hJ.2.1, hJ.2.2.1, hJ.2.2.2.1, hJ.2.2.2.2.1, hJ.2.2.2.2.2.1, fun _ => rfl⟩⟩
  intro l vs w9 hl hJ htold
  have t0 : vs 0 = P0 z := told_is _ (htold 0 (by decide)) rfl
  have t1 : vs 1 = .pointer (some ⟨p, 1, none⟩) := told_is _ (htold 1 (by decide)) rfl
  have t2 : vs 2 = .int .i64 i := told_is _ (htold 2 (by decide)) rfl
  have t3 : vs 3 = P0 z := told_is _ (htold 3 (by decide)) rfl
  have t4 : vs 4 = .pointer (some ⟨z, 0, none⟩) := told_is _ (htold 4 (by decide)) rfl
  have t5 : vs 5 = .pointer (some ⟨z, 0 + i, none⟩) := told_is _ (htold 5 (by decide)) rfl
  have t6 : vs 6 = P0 (pt i) := told_is _ (htold 6 (by decide)) rfl
  have t7 : vs 7 = aggV (d.C u) := told_is _ (htold 7 (by decide)) rfl
  rw [show (List.range 14).map vs = [vs 0, vs 1, vs 2, vs 3, vs 4, vs 5, vs 6, vs 7, vs 8, vs 9, vs 10, vs 11, vs 12, vs 13] from rfl]
  simp only [t0, t1, t2, t3, t4, t5, t6, t7, putAll, Act.put, List.setIfInBounds_toArray, List.set_cons_succ, List.set_cons_zero]
  clear t0 t1 t2 t3 t4 t5 t6 t7 htold
  obtain ⟨_, h8, _, h10, h11, h12, h13⟩ := hJ
  obtain ⟨v', ws', r', he, hR, hBr, hfr⟩ := h8 (hl 8 (by decide))
  injection he with he
  have e12 : vs 12 = r' := by rw [h12 (hl 12 (by decide)), h10 (hl 10 (by decide)), he]; rfl
  have e13 : vs 13 = .bool ((sp i).come d).2.isSome := by rw [h13 (hl 13 (by decide)), h11 (hl 11 (by decide)), he]; rfl
  rw [e12, e13]
  have HT2 := hide ((unhide HT).mut hi hR)
  have HKT : Hid (Kt W w9) := (Kt.of_kept (unhide HK)).trans (Kt.of_sr hR (unhide HS))
  have HP2 := hide (hR.blk (unhide HS) (unhide HP) (by decide) (by decide))
  have HBR := hide hBr
  rw [unhide HNO]
  clear h8 h10 h11 h12 h13 he hR hBr hfr e12 e13 hl hp1
  go_wp2_with fail
  go_end0
  exact ⟨rfl, unhide HKT, v', ws', unhide HT2⟩
@[reducible] def S25b (V : World) (z : Nat) (v : Value) (C : List Value) (j : Nat) (xs : List Value) (r : Value) (d : Nat → Bool) (vs : Nat → Value) (W : World) : Prop :=
  (d 16 = false → (d 12 = false → Kept [] V W) ∧ (d 11 = true → d 12 = false → ∃ p, vs 11 = .slice (some ⟨p, 0, none⟩) 1 1 ∧ Blk W p 33 [r]) ∧ (d 12 = true → OwnO W (vs 12) (xs ++ [r]) ∧ Kept v.ownBlock.toList V W ∧ ∀ k, (vs 12).ownBlock = some k → v.ownBlock = some k ∨ V.heap.size ≤ k)) ∧
  (d 16 = true → ∃ v', OwnO W v' (xs ++ [r]) ∧ Blk W z 54 (C.set j v') ∧ Kept (z :: v.ownBlock.toList) V W ∧ ∀ k, v'.ownBlock = some k → v.ownBlock = some k ∨ V.heap.size ≤ k)
theorem S25b.loc {V : World} {z : Nat} {v : Value} {C : List Value} {j : Nat} {xs : List Value} {r : Value} : ∀ d d' vs vs' W, (∀ i ∈ [11, 12, 16], d i = d' i ∧ vs i = vs' i) → S25b V z v C j xs r d vs W → S25b V z v C j xs r d' vs' W := by
  intro d d' vs vs' W H h
  have e1 := H 11 (by simp)
  have e2 := H 12 (by simp)
  have e4 := H 16 (by simp)
  unfold S25b at h ⊢
  rw [← e1.1, ← e1.2, ← e2.1, ← e2.2, ← e4.1]
  exact h
theorem twC_set {pt : Nat → Nat} {onv : Value} {st ou : Nat → Value} {i : Nat} (hi : i < 2) (v : Value) : (twC pt onv st ou).set (5 + i) v = twC pt onv st (upd ou i v) := by
  have h2 : i = 0 ∨ i = 1 := by omega
  rcases h2 with rfl | rfl <;> rfl
theorem Tt.putOut {w W W' : World} {z : Nat} {pt : Nat → Nat} {sv : Nat → Value} {sw : Nat → List Value} {sp : Nat → Ps} {onv : Value} {D : List (Dg × Value)} {st ou : Nat → Value} {L M : Nat → List (List Int)} (h : Tt w W z pt sv sw sp onv D st ou L M) {i : Nat} (hi : i < 2) {v' r : Value} {bs : List Int} {xs : List Value} (hx : Bods W (ou i) xs (M i)) (hr : Bod W r bs) (h1 : OwnO W' v' (xs ++ [r])) (h2 : Blk W' z 54 ((twC pt onv st ou).set (5 + i) v')) (h3 : Kept (z :: (ou i).ownBlock.toList) W W') (h4 : ∀ k, v'.ownBlock = some k → (ou i).ownBlock = some k ∨ W.heap.size ≤ k) : Tt w W' z pt sv sw sp onv D st (upd ou i v') L (upd M i (M i ++ [bs])) := by
  have hR : Rw sv st ou (i + 4) = ou i := by unfold Rw; rw [if_neg (by omega), if_neg (by omega), Nat.add_sub_cancel]
  have hR' : Rw sv st (upd ou i v') (i + 4) = v' := by unfold Rw; rw [if_neg (by omega), if_neg (by omega), Nat.add_sub_cancel, upd_same]
  have hno5 : ∀ k ∈ z :: (ou i).ownBlock.toList, ∀ cs p, W.heap[k]? ≠ some (Obj.cells cs 5 p) := fun k hm cs p hc => by
    rcases List.mem_cons.1 hm with rfl | hm
    · have := h.hd
      unfold Blk at this
      rw [this] at hc
      cases hc
    · obtain ⟨cs', hc'⟩ := hx.row.block k (by simpa using hm)
      rw [hc'] at hc
      cases hc
  have hbk : ∀ y l, Bod W y l → Bod W' y l := fun y l hy => hy.kept h3 (fun k e hm => by obtain ⟨cs, hc⟩ := hy.block k e; exact hno5 k hm _ _ hc)
  refine h.put (n := i + 4) ⟨by omega, by omega⟩ (by rw [← twC_set hi]; exact h2) (by rw [hR]; exact h3) (by rw [hR, hR']; exact h4) (fun m hm hne => ?_) (fun _ _ _ => rfl) (fun j hj hne => upd_ne _ _ (by omega)) (fun j hj e => by omega) (fun j hj e => ?_)
  · unfold Rw
    split
    · rfl
    · split
      · rfl
      · rw [upd_ne _ _ (by omega)]
  · obtain rfl : j = i := by omega
    rw [upd_same, upd_same]
    refine ⟨xs ++ [r], h1, by rw [List.length_append, List.length_append, hx.len]; rfl, fun n y l hy hl => ?_⟩
    by_cases hn : n < xs.length
    · rw [List.getElem?_append_left hn] at hy
      rw [List.getElem?_append_left (by rw [← hx.len]; exact hn)] at hl
      exact hbk _ _ (hx.body n y l hy hl)
    · rw [List.getElem?_append_right (by omega)] at hy
      rw [List.getElem?_append_right (by rw [← hx.len]; omega)] at hl
      have h0 : n - xs.length = 0 := by have := (List.getElem?_eq_some_iff.1 hy).1; simp at this; omega
      rw [h0] at hy
      rw [← hx.len, h0] at hl
      simp at hy hl
      subst hy hl
      exact hbk _ _ hr
set_option maxHeartbeats 2000000 in
theorem come25_yes (w W : World) (z : Nat) (pt : Nat → Nat) (sv : Nat → Value) (sw : Nat → List Value) (sp : Nat → Ps) (onv : Value) (D : List (Dg × Value)) (st ou : Nat → Value) (L M : Nat → List (List Int)) (h : Tt w W z pt sv sw sp onv D st ou L M) (d : Dg) (u : Value) (hB : Bod W u d.bs) (i : Nat) (hi : i < 2) (hd : d.to = i) (bs : List Int) (hn : ((sp i).come d).2 = some bs) (hM : (M i).length ≤ 10000) : Calls Try.prog 25 #[P0 z, aggV (d.C u)] W fun e W' => e = .returned (.tuple #[]) ∧ Kt W W' ∧ ∃ v' ws' ov, Tt w W' z pt (upd sv i v') (upd sw i ws') (upd sp i ((sp i).come d).1) onv D st (upd ou i ov) L (upd M i (M i ++ [bs])) := by
  have HNO := hide hn
  have HML := hide hM
  clear hn hM
  have HI := hide hi
  have HT := hide h
  have HB0 := hide hB
  have HDT := hide hd
  clear h hB hd
  go_enter Try.func25, Try.ntmps25
  go_wp2_with (
    first
    | (refine wpBoxV (by rfl) (.tmp 1) (by rfl) (d.C u) (by kernel_rfl) ?_
       intro W1 p e1 B1 K1
       have HP := hide B1
       have HK := hide K1
       replace HT := hide ((unhide HT).step K1)
       have HB := hide ((unhide HB0).kept K1 (by simp))
       have hp1 := fits_cell B1 1 _ rfl
       rw [unhide HDT] at hp1
       clear e1 B1 K1
       refine Stp.go ?_))
  constructor
  have hi0 : ¬ (i : Int) < 0 := by omega
  have hi1 : ¬ (1 : Int) < (i : Int) := by omega
  have HS := hide ((unhide HT).s i hi)
  have HC0 : Hid (W1.cell? ⟨z, 0 + i, none⟩ = some (P0 (pt i))) := by rw [Nat.zero_add]; exact fits_cell (unhide HT).hd i _ (twC_s hi)
  go_wp2_with fail
  refine wp_region_any mixed (wpAny_gx 14 rfl (by kernel_rfl) [some (P0 z), some (.pointer (some ⟨p, 1, none⟩)), some (.int .i64 i), some (P0 z), some (.pointer (some ⟨z, 0, none⟩)), some (.pointer (some ⟨z, 0 + i, none⟩)), some (P0 (pt i)), some (aggV (d.C u)), none, none, none, none, none, none] rfl (by kernel_rfl) (fun l vs W => (S25 W1 (pt i) (sv i) (sw i) (sp i) d) (fun i => l.getD i false) vs W) (⟨fun _ => ⟨rfl, rfl, rfl, Nat.le_refl _, fun _ _ _ => rfl⟩, (fun h => by cases h), (fun h => by cases h), (fun h => by cases h), (fun h => by cases h), (fun h => by cases h), (fun h => by cases h)⟩) ?_ ?_)
  · intro ix o' hi ho a' w2 l vs hls hlf hJ hout hin hdep hnot
    match ix, ho with
    | 0, ho =>
      obtain rfl := Option.some.inj ho
      have e0 := hout 0 (by kernel_rfl)
      replace e0 : a'.eval (.tmp 0) = _ := e0.trans rfl
      exact wp_move (.tmp 0) rfl _ e0 ⟨_, rfl, told_of rfl, keepG (St := (S25 W1 (pt i) (sv i) (sw i) (sp i) d)) [8, 9, 10, 11, 12, 13] S25.loc (by omega) (by decide) hJ⟩
    | 1, ho =>
      obtain rfl := Option.some.inj ho
      have e0 := hout 3 (by kernel_rfl)
      replace e0 : a'.eval (.tmp 3) = _ := e0.trans rfl
      exact o_fld35_1 (.tmp 3) rfl _ e0 ⟨_, rfl, told_of rfl, keepG (St := (S25 W1 (pt i) (sv i) (sw i) (sp i) d)) [8, 9, 10, 11, 12, 13] S25.loc (by omega) (by decide) hJ⟩
    | 2, ho =>
      obtain rfl := Option.some.inj ho
      have e0 : a'.eval (.tmp 16) = .pointer (some ⟨p, 1, none⟩) := by have h9 := hin 1 16 (by kernel_rfl) (by kernel_rfl); exact h9.1.trans (told_is _ h9.2 rfl)
      exact o_load3 (.tmp 16) rfl _ _ e0 (by have h9 := fits_cell ((unhide HP).kept (hJ.1 (hnot 8 (by kernel_rfl))) (by simp)) 1 _ rfl; rw [h9, unhide HDT]) ⟨_, rfl, told_of rfl, keepG (St := (S25 W1 (pt i) (sv i) (sw i) (sp i) d)) [8, 9, 10, 11, 12, 13] S25.loc (by omega) (by decide) hJ⟩
    | 3, ho =>
      obtain rfl := Option.some.inj ho
      have e0 : a'.eval (.tmp 15) = P0 z := by have h9 := hin 0 15 (by kernel_rfl) (by kernel_rfl); exact h9.1.trans (told_is _ h9.2 rfl)
      exact o_nil (.tmp 15) rfl _ e0 ⟨_, rfl, told_of rfl, keepG (St := (S25 W1 (pt i) (sv i) (sw i) (sp i) d)) [8, 9, 10, 11, 12, 13] S25.loc (by omega) (by decide) hJ⟩
    | 4, ho =>
      obtain rfl := Option.some.inj ho
      have e0 : a'.eval (.tmp 18) = P0 z := by have h9 := hin 3 18 (by kernel_rfl) (by kernel_rfl); exact h9.1.trans (told_is _ h9.2 rfl)
      exact o_fld54_0 (.tmp 18) rfl _ e0 ⟨_, rfl, told_of rfl, keepG (St := (S25 W1 (pt i) (sv i) (sw i) (sp i) d)) [8, 9, 10, 11, 12, 13] S25.loc (by omega) (by decide) hJ⟩
    | 5, ho =>
      obtain rfl := Option.some.inj ho
      have e0 : a'.eval (.tmp 19) = .pointer (some ⟨z, 0, none⟩) := by have h9 := hin 4 19 (by kernel_rfl) (by kernel_rfl); exact h9.1.trans (told_is _ h9.2 rfl)
      have e1 : a'.eval (.tmp 17) = .int .i64 i := by have h9 := hin 2 17 (by kernel_rfl) (by kernel_rfl); exact h9.1.trans (told_is _ h9.2 rfl)
      exact o_idx51 (.tmp 19) (.tmp 17) rfl z 0 i (unhide HI) e0 e1 ⟨_, rfl, told_of rfl, keepG (St := (S25 W1 (pt i) (sv i) (sw i) (sp i) d)) [8, 9, 10, 11, 12, 13] S25.loc (by omega) (by decide) hJ⟩
    | 6, ho =>
      obtain rfl := Option.some.inj ho
      have e0 : a'.eval (.tmp 20) = .pointer (some ⟨z, 0 + i, none⟩) := by have h9 := hin 5 20 (by kernel_rfl) (by kernel_rfl); exact h9.1.trans (told_is _ h9.2 rfl)
      exact o_load23 (.tmp 20) rfl _ _ e0 ((hJ.1 (hnot 8 (by kernel_rfl))).cell (unhide HC0) (by simp)) ⟨_, rfl, told_of rfl, keepG (St := (S25 W1 (pt i) (sv i) (sw i) (sp i) d)) [8, 9, 10, 11, 12, 13] S25.loc (by omega) (by decide) hJ⟩
    | 7, ho =>
      obtain rfl := Option.some.inj ho
      have e0 := hout 3 (by kernel_rfl)
      replace e0 : a'.eval (.tmp 3) = _ := e0.trans rfl
      exact wp_loadA row35 (.tmp 3) rfl p 0 e0 (d.C u) rfl ((unhide HP).kept (hJ.1 (hnot 8 (by kernel_rfl))) (by simp)).range ⟨_, rfl, told_of rfl, keepG (St := (S25 W1 (pt i) (sv i) (sw i) (sp i) d)) [8, 9, 10, 11, 12, 13] S25.loc (by omega) (by decide) hJ⟩
    | 8, ho =>
      obtain rfl := Option.some.inj ho
      have e0 : a'.eval (.tmp 21) = P0 (pt i) := by have h9 := hin 6 21 (by kernel_rfl) (by kernel_rfl); exact h9.1.trans (told_is _ h9.2 rfl)
      have e1 : a'.eval (.tmp 22) = aggV (d.C u) := by have h9 := hin 7 22 (by kernel_rfl) (by kernel_rfl); exact h9.1.trans (told_is _ h9.2 rfl)
      have hk0 := hJ.1 hlf
      refine wp_callF 20 _ _ rfl #[P0 (pt i), aggV (d.C u)] (by simp [e0, e1]) (cf20 _ _) ((come20b (pt i) (sv i) (sw i) (sp i) d u _ ((unhide HS).kept0 hk0) ((unhide HB).kept hk0 (by simp))).mono ?_)
      rintro e w3 ⟨v', ws', r', rfl, hR, hBr, hfr⟩
      exact ⟨_, rfl, _, rfl, told_no rfl, nextG (St := (S25 W1 (pt i) (sv i) (sw i) (sp i) d)) (by omega) ⟨(fun h => by cases h), fun _ => ⟨v', ws', r', rfl, hR.after hk0, hBr, fun k e => by have := hfr k e; have := hk0.size; omega⟩, (fun h9 => by have h9 : l.getD 9 false = true := h9; rw [hnot 9 (by kernel_rfl)] at h9; cases h9), (fun h10 => by have h9 : l.getD 10 false = true := h10; rw [hnot 10 (by kernel_rfl)] at h9; cases h9), (fun h11 => by have h9 : l.getD 11 false = true := h11; rw [hnot 11 (by kernel_rfl)] at h9; cases h9), (fun h12 => by have h9 : l.getD 12 false = true := h12; rw [hnot 12 (by kernel_rfl)] at h9; cases h9), (fun h13 => by have h9 : l.getD 13 false = true := h13; rw [hnot 13 (by kernel_rfl)] at h9; cases h9)⟩⟩
    | 9, ho =>
      obtain rfl := Option.some.inj ho
      have e0 : a'.eval (.tmp 23) = vs 8 := (hin 8 23 (by kernel_rfl) (by kernel_rfl)).1
      have hd8 := hdep 8 (by kernel_rfl)
      exact wp_move (.tmp 23) rfl _ e0 ⟨_, rfl, told_no rfl, nextG (St := (S25 W1 (pt i) (sv i) (sw i) (sp i) d)) (by omega) ⟨(fun h9 => by have h8 : l.getD 8 false = false := h9; rw [hd8] at h8; cases h8), fun _ => hJ.2.1 hd8, fun _ => ⟨rfl, hd8⟩, (fun h10 => by have h9 : l.getD 10 false = true := h10; rw [hnot 10 (by kernel_rfl)] at h9; cases h9), (fun h11 => by have h9 : l.getD 11 false = true := h11; rw [hnot 11 (by kernel_rfl)] at h9; cases h9), (fun h12 => by have h9 : l.getD 12 false = true := h12; rw [hnot 12 (by kernel_rfl)] at h9; cases h9), (fun h13 => by have h9 : l.getD 13 false = true := h13; rw [hnot 13 (by kernel_rfl)] at h9; cases h9)⟩⟩
    | 10, ho =>
      obtain rfl := Option.some.inj ho
      have e0 : a'.eval (.tmp 14) = vs 9 := (hin 9 14 (by kernel_rfl) (by kernel_rfl)).1
      obtain ⟨h9a, hd8⟩ := hJ.2.2.1 (hdep 9 (by kernel_rfl))
      replace hd8 : l.getD 8 false = true := hd8
      obtain ⟨v', ws', r', he, hrest⟩ := hJ.2.1 hd8
      injection he with he
      exact o_ext (.tmp 14) 0 rfl _ _ (e0.trans (h9a.trans he)) rfl ⟨_, rfl, told_no rfl, nextG (St := (S25 W1 (pt i) (sv i) (sw i) (sp i) d)) (by omega) ⟨(fun h9 => by have h8 : l.getD 8 false = false := h9; rw [hd8] at h8; cases h8), fun _ => hJ.2.1 hd8, fun _ => ⟨h9a, hd8⟩, fun _ => (by show r' = fstV (vs 8); rw [he]; rfl), hJ.2.2.2.2.1, (fun h12 => by have h9 : l.getD 12 false = true := h12; rw [hnot 12 (by kernel_rfl)] at h9; cases h9), hJ.2.2.2.2.2.2⟩⟩
    | 11, ho =>
      obtain rfl := Option.some.inj ho
      have e0 : a'.eval (.tmp 14) = vs 9 := (hin 9 14 (by kernel_rfl) (by kernel_rfl)).1
      obtain ⟨h9a, hd8⟩ := hJ.2.2.1 (hdep 9 (by kernel_rfl))
      replace hd8 : l.getD 8 false = true := hd8
      obtain ⟨v', ws', r', he, hrest⟩ := hJ.2.1 hd8
      injection he with he
      exact o_ext (.tmp 14) 1 rfl _ _ (e0.trans (h9a.trans he)) rfl ⟨_, rfl, told_no rfl, nextG (St := (S25 W1 (pt i) (sv i) (sw i) (sp i) d)) (by omega) ⟨(fun h9 => by have h8 : l.getD 8 false = false := h9; rw [hd8] at h8; cases h8), fun _ => hJ.2.1 hd8, fun _ => ⟨h9a, hd8⟩, hJ.2.2.2.1, fun _ => (by show _ = sndV (vs 8); rw [he]; rfl), hJ.2.2.2.2.2.1, (fun h13 => by have h9 : l.getD 13 false = true := h13; rw [hnot 13 (by kernel_rfl)] at h9; cases h9)⟩⟩
    | 12, ho =>
      obtain rfl := Option.some.inj ho
      have e0 : a'.eval (.tmp 24) = vs 10 := (hin 10 24 (by kernel_rfl) (by kernel_rfl)).1
      exact wp_assignV (.tmp 24) rfl _ e0 ⟨_, rfl, told_no rfl, nextG (St := (S25 W1 (pt i) (sv i) (sw i) (sp i) d)) (by omega) ⟨hJ.1, hJ.2.1, hJ.2.2.1, hJ.2.2.2.1, hJ.2.2.2.2.1, fun _ => rfl, hJ.2.2.2.2.2.2⟩⟩
    | 13, ho =>
      obtain rfl := Option.some.inj ho
      have e0 : a'.eval (.tmp 25) = vs 11 := (hin 11 25 (by kernel_rfl) (by kernel_rfl)).1
      exact wp_assignV (.tmp 25) rfl _ e0 ⟨_, rfl, told_no rfl, nextG (St := (S25 W1 (pt i) (sv i) (sw i) (sp i) d)) (by omega) ⟨hJ.1, hJ.2.1, hJ.2.2.1, hJ.2.2.2.1, hJ.2.2.2.2.1, hJ.2.2.2.2.2.1, fun _ => rfl⟩⟩
  intro l vs w9 hl hJ htold
  have t0 : vs 0 = P0 z := told_is _ (htold 0 (by decide)) rfl
  have t1 : vs 1 = .pointer (some ⟨p, 1, none⟩) := told_is _ (htold 1 (by decide)) rfl
  have t2 : vs 2 = .int .i64 i := told_is _ (htold 2 (by decide)) rfl
  have t3 : vs 3 = P0 z := told_is _ (htold 3 (by decide)) rfl
  have t4 : vs 4 = .pointer (some ⟨z, 0, none⟩) := told_is _ (htold 4 (by decide)) rfl
  have t5 : vs 5 = .pointer (some ⟨z, 0 + i, none⟩) := told_is _ (htold 5 (by decide)) rfl
  have t6 : vs 6 = P0 (pt i) := told_is _ (htold 6 (by decide)) rfl
  have t7 : vs 7 = aggV (d.C u) := told_is _ (htold 7 (by decide)) rfl
  rw [show (List.range 14).map vs = [vs 0, vs 1, vs 2, vs 3, vs 4, vs 5, vs 6, vs 7, vs 8, vs 9, vs 10, vs 11, vs 12, vs 13] from rfl]
  simp only [t0, t1, t2, t3, t4, t5, t6, t7, putAll, Act.put, List.setIfInBounds_toArray, List.set_cons_succ, List.set_cons_zero]
  clear t0 t1 t2 t3 t4 t5 t6 t7 htold
  obtain ⟨_, h8, _, h10, h11, h12, h13⟩ := hJ
  obtain ⟨v', ws', r', he, hR, hBr, hfr⟩ := h8 (hl 8 (by decide))
  injection he with he
  have e12 : vs 12 = r' := by rw [h12 (hl 12 (by decide)), h10 (hl 10 (by decide)), he]; rfl
  have e13 : vs 13 = .bool ((sp i).come d).2.isSome := by rw [h13 (hl 13 (by decide)), h11 (hl 11 (by decide)), he]; rfl
  rw [e12, e13]
  have HT2 := hide ((unhide HT).mut hi hR)
  have HKT : Hid (Kt W w9) := (Kt.of_kept (unhide HK)).trans (Kt.of_sr hR (unhide HS))
  have HP2 := hide (hR.blk (unhide HS) (unhide HP) (by decide) (by decide))
  have HBR := hide hBr
  rw [unhide HNO]
  replace HBR : Hid (Bod w9 r' bs) := by have h9 := unhide HBR; rw [unhide HNO] at h9; exact h9
  obtain ⟨ro, rc, hro, _, _⟩ := (unhide HBR).sl
  obtain ⟨rn, hrn⟩ : ∃ rn, rn = bs.length := ⟨_, rfl⟩
  rw [← hrn] at hro
  subst hro
  obtain ⟨xs, hxs⟩ := (unhide HT2).q i hi
  have HXS := hide hxs
  have HO := hide hxs.row
  have HXL : Hid (xs.length ≤ 100000) := by have h1 := hxs.len; have h2 := unhide HML; exact (by omega : xs.length ≤ 100000)
  have HZ := hide (unhide HT2).hd
  have HC5 : Hid (w9.cell? ⟨z, 5 + i, none⟩ = some (ou i)) := fits_cell (unhide HT2).hd (5 + i) _ (twC_ou hi)
  have HNL : Hid (z ∉ (ou i).ownBlock.toList) := fun hm => by
    obtain ⟨cs, hc⟩ := (unhide HO).block z (by simpa using hm)
    have h9 := unhide HZ
    unfold Blk at h9
    rw [hc] at h9
    cases h9
  have HNP : Hid (p ∉ (ou i).ownBlock.toList) := fun hm => by
    obtain ⟨cs, hc⟩ := (unhide HO).block p (by simpa using hm)
    have h9 := unhide HP2
    unfold Blk at h9
    rw [hc] at h9
    cases h9
  clear h8 h10 h11 h12 h13 he hR hBr hfr e12 e13 hl hp1 hxs hrn
  go_wp2_with fail
  refine wp_region_any mixed (wpAny_gx 17 rfl (by kernel_rfl) [some (P0 z), some (.pointer (some ⟨p, 1, none⟩)), some (.int .i64 i), some (P0 z), some (.pointer (some ⟨p, 1, none⟩)), some (.int .i64 i), some (P0 z), some (.pointer (some ⟨z, 5, none⟩)), some (.pointer (some ⟨z, 5 + i, none⟩)), some (ou i), some (.slice ro rn rc), none, none, some (P0 z), some (.pointer (some ⟨z, 5, none⟩)), some (.pointer (some ⟨z, 5 + i, none⟩)), none] rfl (by kernel_rfl) (fun l vs W => (S25b w9 z (ou i) (twC pt onv st ou) (5 + i) xs (.slice ro rn rc)) (fun i => l.getD i false) vs W) (⟨fun _ => ⟨fun _ => ⟨rfl, rfl, rfl, Nat.le_refl _, fun _ _ _ => rfl⟩, (fun h => by cases h), (fun h => by cases h)⟩, fun h => by cases h⟩) ?_ ?_)
  · intro ix o' hi ho a' w2 l vs hls hlf hJ hout hin hdep hnot
    match ix, ho with
    | 0, ho =>
      obtain rfl := Option.some.inj ho
      have e0 := hout 0 (by kernel_rfl)
      replace e0 : a'.eval (.tmp 0) = _ := e0.trans rfl
      exact wp_move (.tmp 0) rfl _ e0 ⟨_, rfl, told_of rfl, keepG (St := (S25b w9 z (ou i) (twC pt onv st ou) (5 + i) xs (.slice ro rn rc))) [11, 12, 16] S25b.loc (by omega) (by decide) hJ⟩
    | 1, ho =>
      obtain rfl := Option.some.inj ho
      have e0 := hout 3 (by kernel_rfl)
      replace e0 : a'.eval (.tmp 3) = _ := e0.trans rfl
      exact o_fld35_1 (.tmp 3) rfl _ e0 ⟨_, rfl, told_of rfl, keepG (St := (S25b w9 z (ou i) (twC pt onv st ou) (5 + i) xs (.slice ro rn rc))) [11, 12, 16] S25b.loc (by omega) (by decide) hJ⟩
    | 2, ho =>
      obtain rfl := Option.some.inj ho
      have e0 : a'.eval (.tmp 28) = .pointer (some ⟨p, 1, none⟩) := by have h9 := hin 1 28 (by kernel_rfl) (by kernel_rfl); exact h9.1.trans (told_is _ h9.2 rfl)
      have hk9 : Kept (ou i).ownBlock.toList w9 w2 := by
        rcases Bool.eq_false_or_eq_true (l.getD 12 false) with h | h
        · exact ((hJ.1 (hnot 16 (by kernel_rfl))).2.2 h).2.1
        · exact ((hJ.1 (hnot 16 (by kernel_rfl))).1 h).mono (by simp)
      exact o_load3 (.tmp 28) rfl _ _ e0 (by have h9 := fits_cell ((unhide HP2).kept hk9 (unhide HNP)) 1 _ rfl; rw [h9, unhide HDT]) ⟨_, rfl, told_of rfl, keepG (St := (S25b w9 z (ou i) (twC pt onv st ou) (5 + i) xs (.slice ro rn rc))) [11, 12, 16] S25b.loc (by omega) (by decide) hJ⟩
    | 3, ho =>
      obtain rfl := Option.some.inj ho
      have e0 := hout 0 (by kernel_rfl)
      replace e0 : a'.eval (.tmp 0) = _ := e0.trans rfl
      exact wp_move (.tmp 0) rfl _ e0 ⟨_, rfl, told_of rfl, keepG (St := (S25b w9 z (ou i) (twC pt onv st ou) (5 + i) xs (.slice ro rn rc))) [11, 12, 16] S25b.loc (by omega) (by decide) hJ⟩
    | 4, ho =>
      obtain rfl := Option.some.inj ho
      have e0 := hout 3 (by kernel_rfl)
      replace e0 : a'.eval (.tmp 3) = _ := e0.trans rfl
      exact o_fld35_1 (.tmp 3) rfl _ e0 ⟨_, rfl, told_of rfl, keepG (St := (S25b w9 z (ou i) (twC pt onv st ou) (5 + i) xs (.slice ro rn rc))) [11, 12, 16] S25b.loc (by omega) (by decide) hJ⟩
    | 5, ho =>
      obtain rfl := Option.some.inj ho
      have e0 : a'.eval (.tmp 31) = .pointer (some ⟨p, 1, none⟩) := by have h9 := hin 4 31 (by kernel_rfl) (by kernel_rfl); exact h9.1.trans (told_is _ h9.2 rfl)
      exact o_load3 (.tmp 31) rfl _ _ e0 (by have h9 := fits_cell ((unhide HP2).kept ((hJ.1 (hnot 16 (by kernel_rfl))).1 (hnot 12 (by kernel_rfl))) (by simp)) 1 _ rfl; rw [h9, unhide HDT]) ⟨_, rfl, told_of rfl, keepG (St := (S25b w9 z (ou i) (twC pt onv st ou) (5 + i) xs (.slice ro rn rc))) [11, 12, 16] S25b.loc (by omega) (by decide) hJ⟩
    | 6, ho =>
      obtain rfl := Option.some.inj ho
      have e0 : a'.eval (.tmp 30) = P0 z := by have h9 := hin 3 30 (by kernel_rfl) (by kernel_rfl); exact h9.1.trans (told_is _ h9.2 rfl)
      exact o_nil (.tmp 30) rfl _ e0 ⟨_, rfl, told_of rfl, keepG (St := (S25b w9 z (ou i) (twC pt onv st ou) (5 + i) xs (.slice ro rn rc))) [11, 12, 16] S25b.loc (by omega) (by decide) hJ⟩
    | 7, ho =>
      obtain rfl := Option.some.inj ho
      have e0 : a'.eval (.tmp 33) = P0 z := by have h9 := hin 6 33 (by kernel_rfl) (by kernel_rfl); exact h9.1.trans (told_is _ h9.2 rfl)
      exact o_fld54_3 (.tmp 33) rfl _ e0 ⟨_, rfl, told_of rfl, keepG (St := (S25b w9 z (ou i) (twC pt onv st ou) (5 + i) xs (.slice ro rn rc))) [11, 12, 16] S25b.loc (by omega) (by decide) hJ⟩
    | 8, ho =>
      obtain rfl := Option.some.inj ho
      have e0 : a'.eval (.tmp 34) = .pointer (some ⟨z, 5, none⟩) := by have h9 := hin 7 34 (by kernel_rfl) (by kernel_rfl); exact h9.1.trans (told_is _ h9.2 rfl)
      have e1 : a'.eval (.tmp 32) = .int .i64 i := by have h9 := hin 5 32 (by kernel_rfl) (by kernel_rfl); exact h9.1.trans (told_is _ h9.2 rfl)
      exact o_idx52 (.tmp 34) (.tmp 32) rfl z 5 i (unhide HI) e0 e1 ⟨_, rfl, told_of rfl, keepG (St := (S25b w9 z (ou i) (twC pt onv st ou) (5 + i) xs (.slice ro rn rc))) [11, 12, 16] S25b.loc (by omega) (by decide) hJ⟩
    | 9, ho =>
      obtain rfl := Option.some.inj ho
      have e0 : a'.eval (.tmp 35) = .pointer (some ⟨z, 5 + i, none⟩) := by have h9 := hin 8 35 (by kernel_rfl) (by kernel_rfl); exact h9.1.trans (told_is _ h9.2 rfl)
      exact o_load30 (.tmp 35) rfl _ _ e0 (((hJ.1 (hnot 16 (by kernel_rfl))).1 (hnot 12 (by kernel_rfl))).cell (unhide HC5) (by simp)) ⟨_, rfl, told_of rfl, keepG (St := (S25b w9 z (ou i) (twC pt onv st ou) (5 + i) xs (.slice ro rn rc))) [11, 12, 16] S25b.loc (by omega) (by decide) hJ⟩
    | 10, ho =>
      obtain rfl := Option.some.inj ho
      have e0 := hout 4 (by kernel_rfl)
      replace e0 : a'.eval (.tmp 4) = _ := e0.trans rfl
      exact wp_move (.tmp 4) rfl _ e0 ⟨_, rfl, told_of rfl, keepG (St := (S25b w9 z (ou i) (twC pt onv st ou) (5 + i) xs (.slice ro rn rc))) [11, 12, 16] S25b.loc (by omega) (by decide) hJ⟩
    | 11, ho =>
      obtain rfl := Option.some.inj ho
      have e0 : a'.eval (.tmp 37) = .slice ro rn rc := by have h9 := hin 10 37 (by kernel_rfl) (by kernel_rfl); exact h9.1.trans (told_is _ h9.2 rfl)
      have hk0 := ((hJ.1 (hnot 16 (by kernel_rfl))).1 (hnot 12 (by kernel_rfl)))
      refine o_bsS (.tmp 37) rfl ro rn rc e0 ?_
      exact ⟨_, rfl, told_no rfl, nextG (St := (S25b w9 z (ou i) (twC pt onv st ou) (5 + i) xs (.slice ro rn rc))) (by omega) ⟨fun h16 => ⟨fun _ => hk0.alloc _, fun _ _ => ⟨w2.heap.size, rfl, Blk.new w2 33 _⟩, (fun h12 => by have h9 : l.getD 12 false = true := h12; rw [hnot 12 (by kernel_rfl)] at h9; cases h9)⟩, (fun h16 => by have h9 : l.getD 16 false = true := h16; rw [hnot 16 (by kernel_rfl)] at h9; cases h9)⟩⟩
    | 12, ho =>
      obtain rfl := Option.some.inj ho
      have e0 : a'.eval (.tmp 36) = ou i := by have h9 := hin 9 36 (by kernel_rfl) (by kernel_rfl); exact h9.1.trans (told_is _ h9.2 rfl)
      have e1 : a'.eval (.tmp 38) = vs 11 := (hin 11 38 (by kernel_rfl) (by kernel_rfl)).1
      have hk0 := (hJ.1 (hnot 16 (by kernel_rfl))).1 hlf
      obtain ⟨q, hq, hBq⟩ := (hJ.1 (hnot 16 (by kernel_rfl))).2.1 (hdep 11 (by kernel_rfl)) hlf
      refine o_appO (.tmp 36) (.tmp 38) rfl (ou i) xs e0 ((unhide HO).kept hk0 (by simp)) q (.slice ro rn rc) (e1.trans hq) hBq rfl (unhide HXL) fun v' w' h1 h2 h3 => ?_
      exact ⟨_, rfl, told_no rfl, nextG (St := (S25b w9 z (ou i) (twC pt onv st ou) (5 + i) xs (.slice ro rn rc))) (by omega) ⟨fun h16 => ⟨(fun h => by cases h), (fun _ h => by cases h), fun _ => ⟨h1, (hk0.mono (by simp)).trans h2, fun k hk => (h3 k hk).imp id (fun x => by have := hk0.size; omega)⟩⟩, (fun h16 => by have h9 : l.getD 16 false = true := h16; rw [hnot 16 (by kernel_rfl)] at h9; cases h9)⟩⟩
    | 13, ho =>
      obtain rfl := Option.some.inj ho
      have e0 : a'.eval (.tmp 27) = P0 z := by have h9 := hin 0 27 (by kernel_rfl) (by kernel_rfl); exact h9.1.trans (told_is _ h9.2 rfl)
      exact o_nil (.tmp 27) rfl _ e0 ⟨_, rfl, told_of rfl, keepG (St := (S25b w9 z (ou i) (twC pt onv st ou) (5 + i) xs (.slice ro rn rc))) [11, 12, 16] S25b.loc (by omega) (by decide) hJ⟩
    | 14, ho =>
      obtain rfl := Option.some.inj ho
      have e0 : a'.eval (.tmp 40) = P0 z := by have h9 := hin 13 40 (by kernel_rfl) (by kernel_rfl); exact h9.1.trans (told_is _ h9.2 rfl)
      exact o_fld54_3 (.tmp 40) rfl _ e0 ⟨_, rfl, told_of rfl, keepG (St := (S25b w9 z (ou i) (twC pt onv st ou) (5 + i) xs (.slice ro rn rc))) [11, 12, 16] S25b.loc (by omega) (by decide) hJ⟩
    | 15, ho =>
      obtain rfl := Option.some.inj ho
      have e0 : a'.eval (.tmp 41) = .pointer (some ⟨z, 5, none⟩) := by have h9 := hin 14 41 (by kernel_rfl) (by kernel_rfl); exact h9.1.trans (told_is _ h9.2 rfl)
      have e1 : a'.eval (.tmp 29) = .int .i64 i := by have h9 := hin 2 29 (by kernel_rfl) (by kernel_rfl); exact h9.1.trans (told_is _ h9.2 rfl)
      exact o_idx52 (.tmp 41) (.tmp 29) rfl z 5 i (unhide HI) e0 e1 ⟨_, rfl, told_of rfl, keepG (St := (S25b w9 z (ou i) (twC pt onv st ou) (5 + i) xs (.slice ro rn rc))) [11, 12, 16] S25b.loc (by omega) (by decide) hJ⟩
    | 16, ho =>
      obtain rfl := Option.some.inj ho
      have e0 : a'.eval (.tmp 42) = .pointer (some ⟨z, 5 + i, none⟩) := by have h9 := hin 15 42 (by kernel_rfl) (by kernel_rfl); exact h9.1.trans (told_is _ h9.2 rfl)
      have e1 : a'.eval (.tmp 39) = vs 12 := (hin 12 39 (by kernel_rfl) (by kernel_rfl)).1
      obtain ⟨h1, h2, h3⟩ := (hJ.1 hlf).2.2 (hdep 12 (by kernel_rfl))
      have hB9 := (unhide HZ).kept h2 (unhide HNL)
      obtain ⟨ao9, c9, e9, _, _⟩ := h1.sl
      refine o_st30 (.tmp 42) (.tmp 39) rfl rfl z (5 + i) 54 _ (vs 12) e0 e1 ⟨ao9, _, c9, e9⟩ hB9 (by have := unhide HI; simp [twC]; omega) fun W hBW hkW => ⟨_, rfl, told_no rfl, nextG (St := (S25b w9 z (ou i) (twC pt onv st ou) (5 + i) xs (.slice ro rn rc))) (by omega) ⟨(fun h => by cases h), fun _ => ⟨vs 12, h1.kept hkW (fun k hk hm => ?_), hBW, (h2.mono (fun k hk => List.mem_cons_of_mem _ hk)).trans (hkW.mono (by simp)), h3⟩⟩⟩
      simp at hm; subst hm; obtain ⟨cs, hc⟩ := h1.block k hk; unfold Blk at hB9; rw [hB9] at hc; injection hc with hc; injection hc with _ hc; exact absurd hc (by decide)
  intro l vs w8 hl hJ htold
  have t0 : vs 0 = P0 z := told_is _ (htold 0 (by decide)) rfl
  have t1 : vs 1 = .pointer (some ⟨p, 1, none⟩) := told_is _ (htold 1 (by decide)) rfl
  have t2 : vs 2 = .int .i64 i := told_is _ (htold 2 (by decide)) rfl
  have t3 : vs 3 = P0 z := told_is _ (htold 3 (by decide)) rfl
  have t4 : vs 4 = .pointer (some ⟨p, 1, none⟩) := told_is _ (htold 4 (by decide)) rfl
  have t5 : vs 5 = .int .i64 i := told_is _ (htold 5 (by decide)) rfl
  have t6 : vs 6 = P0 z := told_is _ (htold 6 (by decide)) rfl
  have t7 : vs 7 = .pointer (some ⟨z, 5, none⟩) := told_is _ (htold 7 (by decide)) rfl
  have t8 : vs 8 = .pointer (some ⟨z, 5 + i, none⟩) := told_is _ (htold 8 (by decide)) rfl
  have t9 : vs 9 = ou i := told_is _ (htold 9 (by decide)) rfl
  have t10 : vs 10 = .slice ro rn rc := told_is _ (htold 10 (by decide)) rfl
  have t13 : vs 13 = P0 z := told_is _ (htold 13 (by decide)) rfl
  have t14 : vs 14 = .pointer (some ⟨z, 5, none⟩) := told_is _ (htold 14 (by decide)) rfl
  have t15 : vs 15 = .pointer (some ⟨z, 5 + i, none⟩) := told_is _ (htold 15 (by decide)) rfl
  rw [show (List.range 17).map vs = [vs 0, vs 1, vs 2, vs 3, vs 4, vs 5, vs 6, vs 7, vs 8, vs 9, vs 10, vs 11, vs 12, vs 13, vs 14, vs 15, vs 16] from rfl]
  simp only [t0, t1, t2, t3, t4, t5, t6, t7, t8, t9, t10, t13, t14, t15, putAll, Act.put, List.setIfInBounds_toArray, List.set_cons_succ, List.set_cons_zero]
  clear t0 t1 t2 t3 t4 t5 t6 t7 t8 t9 t10 t13 t14 t15 htold
  obtain ⟨ov, h1, h2, h3, h4⟩ := hJ.2 (hl 16 (by decide))
  have HT3 := hide ((unhide HT2).putOut hi (unhide HXS) (unhide HBR) h1 h2 h3 h4)
  replace HKT : Hid (Kt W w8) := (unhide HKT).trans ⟨h3.size, fun k cs T p hT hk => h3.heap hk (fun hm => by
    rcases List.mem_cons.1 hm with rfl | hm
    · have h9 := unhide HZ
      unfold Blk at h9
      rw [h9] at hk
      cases hk
      rcases hT with hT | hT | hT <;> exact absurd hT (by decide)
    · obtain ⟨cs', hc'⟩ := (unhide HO).block k (by simpa using hm)
      rw [hc'] at hk
      cases hk
      rcases hT with hT | hT | hT <;> exact absurd hT (by decide))⟩
  clear hJ hl h1 h2 h3 h4
  go_wp2_with fail
  go_end0
  exact ⟨rfl, unhide HKT, v', ws', ov, unhide HT3⟩

end Go.Proofs.Ythbgnpbkdeofcaa
