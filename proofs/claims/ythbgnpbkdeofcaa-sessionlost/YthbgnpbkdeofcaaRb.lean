/-
  The document's session: what it tells.
-/
import Derived.Test.YthbgnpbkdeofcaaRa
namespace Go.Proofs.Ythbgnpbkdeofcaa
set_option maxRecDepth 100000
open Go.RowKit

section
variable {o : Oper} {a : Act} {w : World} {K : Act → World → Prop} {Q : Exit → Act → World → Prop}
theorem o_bsD (x : Operand) (ho : o.op = .buildSlice 40 1 #[(0, x)]) (d : Dg) (u : Value) (hu : ∃ ao m c, u = .slice ao m c) (hx : a.eval x = aggV (d.C u)) (h : K (a.put o.dst (.slice (some ⟨w.heap.size, 0, none⟩) 1 1)) (w.alloc (.cells (d.C u).toArray 35))) : o.wp Try.prog a w K Q := by
  obtain ⟨ao, m, c, rfl⟩ := hu
  have hr : (Instr.buildSlice 40 1 #[(0, aggV (d.C (.slice ao m c)))]).run Try.prog w = .ok (.slice (some ⟨w.heap.size, 0, none⟩) 1 1) (w.alloc (.cells (d.C (.slice ao m c)).toArray 35)) := by kernel_rfl
  unfold Oper.wp execOp
  simp only [ho, List.map_toArray, List.map_cons, List.map_nil, hx, Sem.run_bind, hr, Result.andThen_ok]
  exact h
theorem o_idx30 (x y : Operand) (ho : o.op = .indexAddr 30 x y) (g off m c k : Nat) (hk : k < m) (hx : a.eval x = .slice (some ⟨g, off, none⟩) m c) (hy : a.eval y = .int .i64 k) (h : K (a.put o.dst (.pointer (some ⟨g, off + k, none⟩))) w) : o.wp Try.prog a w K Q := by
  unfold Oper.wp execOp
  simp only [ho, hx, hy]
  simp [go_sem, hk, Addr.add_lit]
  exact h
theorem o_appD (s x : Operand) (ho : o.op = .call { callee := .builtin .append, args := #[s, x], argTypes := #[40, 40] }) (B : Nat) (v : Value) (L : List (Dg × Value)) (hs : a.eval s = v) (hD : Dl w B v L) (p : Nat) (d : Dg) (u : Value) (hx : a.eval x = .slice (some ⟨p, 0, none⟩) 1 1) (hp : Blk w p 35 (d.C u)) (hu : Bod w u d.bs) (hn : ∀ k, u.ownBlock = some k → B ≤ k) (hL : L.length ≤ 100000) (hB : B ≤ w.heap.size)
    (h : ∀ v' w', Dl w' B v' (L ++ [(d, u)]) → Kept v.ownBlock.toList w w' → (∀ k, v'.ownBlock = some k → v.ownBlock = some k ∨ w.heap.size ≤ k) → K (a.put o.dst v') w') : o.wp Try.prog a w K Q := by
  refine o_appG (T := 40) (e := 35) (size := 6) (by8 := 64) (z := aggV zD) Try.sl40 Try.info35 rfl (by decide) s x ho B v L.length (cellsD L) (d.C u) hs hD.row (some ⟨p, 0, none⟩) 1 1 hx (fun e => by cases e) rfl (fun ad e j y hj => ?_) (DgC_one hu.one) (by omega) (by omega) hB fun v' w' h1 h2 h3 => ?_
  · cases e
    rw [Addr.add_lit, Nat.zero_add, hp.cell]
    exact hj
  · refine h v' w' (dl_more hD h1 h2 hu hn) (Kept.of_grown h2 (fun k e _ => by simp [e])) (fun k e => ?_)
    rcases h3 with e2 | e2
    · rw [← e2]; exact .inl e
    · rw [e2] at e; cases e; exact .inr (Nat.le_refl _)
end
@[reducible] def S37 (V : World) (B : Nat) (av : Value) (L : List (Dg × Value)) (D : Dg) (d : Nat → Bool) (vs : Nat → Value) (W : World) : Prop :=
  (d 29 = false → Kept [] V W ∧ (d 26 = true → Bod W (vs 26) D.bs ∧ ∀ k, (vs 26).ownBlock = some k → V.heap.size ≤ k) ∧ (d 27 = true → vs 27 = aggV (D.C (vs 26)) ∧ d 26 = true) ∧ (d 28 = true → ∃ p, vs 28 = .slice (some ⟨p, 0, none⟩) 1 1 ∧ Blk W p 35 (D.C (vs 26)) ∧ d 26 = true)) ∧
  (d 29 = true → ∃ u, Dl W B (vs 29) (L ++ [(D, u)]) ∧ Kept av.ownBlock.toList V W) ∧ (d 30 = true → vs 30 = vs 29)
theorem S37.loc {V : World} {B : Nat} {av : Value} {L : List (Dg × Value)} {D : Dg} : ∀ d d' vs vs' W, (∀ i ∈ [26, 27, 28, 29, 30], d i = d' i ∧ vs i = vs' i) → S37 V B av L D d vs W → S37 V B av L D d' vs' W := by
  intro d d' vs vs' W H h
  have e0 := H 26 (by simp)
  have e1 := H 27 (by simp)
  have e2 := H 28 (by simp)
  have e3 := H 29 (by simp)
  have e4 := H 30 (by simp)
  unfold S37 at h ⊢
  rw [← e0.1, ← e0.2, ← e1.1, ← e1.2, ← e2.1, ← e2.2, ← e3.1, ← e3.2, ← e4.1, ← e4.2]
  exact h
@[reducible] def S37b (V : World) (B : Nat) (av : Value) (D : Dg) (d : Nat → Bool) (vs : Nat → Value) (W : World) : Prop :=
  (d 19 = false → Kept [] V W ∧ (d 18 = true → ∃ p, vs 18 = .slice (some ⟨p, 0, none⟩) 1 1 ∧ Blk W p 35 (D.C (.slice none 0 0)))) ∧
  (d 19 = true → ∃ u, Dl W B (vs 19) [(D, u)] ∧ Kept av.ownBlock.toList V W) ∧ (d 20 = true → vs 20 = vs 19)
theorem S37b.loc {V : World} {B : Nat} {av : Value} {D : Dg} : ∀ d d' vs vs' W, (∀ i ∈ [18, 19, 20], d i = d' i ∧ vs i = vs' i) → S37b V B av D d vs W → S37b V B av D d' vs' W := by
  intro d d' vs vs' W H h
  have e2 := H 18 (by simp)
  have e3 := H 19 (by simp)
  have e4 := H 20 (by simp)
  unfold S37b at h ⊢
  rw [← e2.1, ← e2.2, ← e3.1, ← e3.2, ← e4.1, ← e4.2]
  exact h
theorem build35o (w : World) (a b c d : Int) : (Instr.build 35 #[(0, .int .i64 a), (1, .int .i64 b), (2, .int .i64 c), (4, .int .i64 d)]).run Try.prog w = .ok (aggV ((⟨a, b, c, 0, d, []⟩ : Dg).C (.slice none 0 0))) w := by kernel_rfl
theorem st3 (w : World) (b TT i : Nat) (us : List Value) (n : Int) (h : Blk w b TT us) (hi : i < us.length) : (storeVar 3 ⟨b, i, none⟩ (.int .i64 n)).run Try.prog w = .ok () (w.setCell ⟨b, i, none⟩ (.int .i64 n)) := by
  have hc := h.cell i
  rw [List.getElem?_eq_getElem hi] at hc
  have hf := h.frozen i
  simp [storeVar, go_sem, hc, hf]
/-- What a call of the document's that tells leaves. -/
def TRr (w : World) (b : Nat) (v : Value) (ws : List Value) (P : Ps) (D : List Dg) (e : Ending) (w' : World) : Prop := ∃ dv L, e = .returned dv ∧ Dl w' w.heap.size dv L ∧ L.map Prod.fst = D ∧ RR w b v ws w' v ws P.toldP
set_option maxHeartbeats 2000000 in
theorem rtell37 (b : Nat) (v : Value) (ws : List Value) (P : Ps) (f : Nat) (w : World) (h : Rx w b v ws P) (hfl : f ≤ P.sent.length) : Calls Try.prog 37 #[P0 b, .int .i64 f] w fun e w' => TRr w b v ws P (P.tellL f) e w' := by
  have HLN : Hid (ws.length = P.sent.length ∧ f ≤ P.sent.length ∧ P.sent.length ≤ 1000) := ⟨h.len, hfl, h.ok.many⟩
  obtain ⟨N, hN⟩ : ∃ N, N = ws.length := ⟨_, rfl⟩
  have HN : Hid (ws.length = N) := hN.symm
  have hf1 : f ≤ N := by have := h.len; omega
  have hN1 : N ≤ 1000 := by have := h.len; have := h.ok.many; omega
  have HS := hide h
  have HBL : Hid (b < w.heap.size) := h.lt.1
  have HVLO := hide h.lt.2.1
  clear h hfl hN
  go_enter Try.func37, Try.ntmps37
  go_wp2_with fail
  go_loopw [5, 6] (fun av i wr => ∃ (j q : Nat) (L : List (Dg × Value)), j ≤ N ∧ i = .int .i64 j ∧ Hid (j = f + q) ∧ Hid (Dl wr w.heap.size av L) ∧ Hid (L.map Prod.fst = (List.range q).map (P.at f)) ∧ Hid (Kept [] w wr)) (fun _ i _ => N - (intOf i).toNat)
  case atStart => exact ⟨f, 0, [], hf1, rfl, rfl, Dl.nil _ _, rfl, Kept.refl _ _⟩
  case round =>
    obtain ⟨j, q, L, hj, rfl, HQ, HD, HL, HK⟩ := hrel
    replace HS := hide ((unhide HS).kept0 (unhide HK))
    have hLL : L.length = q := by have := congrArg List.length (unhide HL); simpa using this
    have HLL := hide hLL
    clear hLL
    have HH := hide (unhide HS).head
    by_cases hlt : j < N
    · have hln := unhide HLN
      have hnn := unhide HN
      obtain ⟨u, hu⟩ : ∃ u, ws[j]? = some u := ⟨_, List.getElem?_eq_getElem (by omega)⟩
      obtain ⟨bs, hbs⟩ : ∃ bs, P.sent[j]? = some bs := ⟨_, List.getElem?_eq_getElem (by omega)⟩
      have hB := (unhide HS).body j u bs hu hbs
      have hmem : bs ∈ P.sent := List.mem_of_getElem? hbs
      have hsm := (unhide HS).ok.small bs hmem
      obtain ⟨uo, uc, rfl, hVu, hnu⟩ := hB.sl
      have HAT : Hid (P.at f q = P.dg ((j : Int) + 1) bs) := by
        have hq := unhide HQ
        have : P.at f q = P.dg ((j : Int) + 1) bs := by
          unfold Ps.at
          rw [show f + q = j by omega, List.getD_eq_getElem?_getD, hbs, show (f : Int) + 1 + (q : Int) = (j : Int) + 1 by omega]
          rfl
        exact this
      have HJS : Hid (j ≤ 1000) := (by omega : j ≤ 1000)
      have HBL2 : Hid (bs.length ≤ 256) := hsm
      have HBY := hide hB.byte
      have HUV := hide hVu
      have HUN := hide hnu
      have HJL : Hid (j < ws.length) := (by omega : j < ws.length)
      rcases (unhide HS).row with ⟨_, h1⟩ | ⟨g, off, vc, cur, h1, hcur, _, _, _, hcell⟩
      · exfalso; rw [h1] at hu; simp at hu
      · have hce : wr.cell? ⟨g, off + j, none⟩ = some (.slice uo bs.length uc) := by rw [cell_of_block hcur]; exact hcell j _ hu
        have HCE := hide hce
        clear hce
        have hc3 := fits_cell (unhide HH) 3 _ rfl
        rw [h1, hnn] at hc3
        rw [h1] at HH HS
        have hltI : (j : Int) < (N : Int) := by omega
        clear hln hnn hu hbs hB hmem hsm hVu hnu hcur hcell h1
        go_wp2_with fail
        clear hc3
        refine wp_region_any mixed (wpAny_gx 31 rfl (by kernel_rfl) [some (u5), some (P0 b), some (P0 b), some (.pointer (some ⟨b, 0, none⟩)), some (.int .i64 P.me), some (P0 b), some (P0 b), some (.pointer (some ⟨b, 1, none⟩)), some (.int .i64 P.oth), some (P0 b), some (P0 b), some (.pointer (some ⟨b, 2, none⟩)), some (.int .i64 P.view), some (.int .i64 j), some (.int .i64 ((j : Int) + 1)), some (P0 b), some (P0 b), some (.pointer (some ⟨b, 6, none⟩)), some (.int .i64 P.got), some (P0 b), some (P0 b), some (.pointer (some ⟨b, 3, none⟩)), some (.slice (some ⟨g, off, none⟩) ws.length vc), some (.int .i64 j), some (.pointer (some ⟨g, off + j, none⟩)), some (.slice uo bs.length uc), none, none, none, none, none] rfl (by kernel_rfl) (fun l vs W => (S37 wr w.heap.size u5 L (P.dg ((j : Int) + 1) bs)) (fun i => l.getD i false) vs W) (⟨fun _ => ⟨⟨rfl, rfl, rfl, Nat.le_refl _, fun _ _ _ => rfl⟩, (fun h => by cases h), (fun h => by cases h), (fun h => by cases h)⟩, (fun h => by cases h), (fun h => by cases h)⟩) ?_ ?_)
        · intro ix o' hi ho a' w2 l vs hls hlf hJ hout hin hdep hnot
          match ix, ho with
          | 0, ho =>
            obtain rfl := Option.some.inj ho
            have e0 := hout 5 (by kernel_rfl)
            replace e0 : a'.eval (.tmp 5) = _ := e0.trans rfl
            exact wp_move (.tmp 5) rfl _ e0 ⟨_, rfl, told_of rfl, keepG (St := (S37 wr w.heap.size u5 L (P.dg ((j : Int) + 1) bs))) [26, 27, 28, 29, 30] S37.loc (by omega) (by decide) hJ⟩
          | 1, ho =>
            obtain rfl := Option.some.inj ho
            have e0 := hout 0 (by kernel_rfl)
            replace e0 : a'.eval (.tmp 0) = _ := e0.trans rfl
            exact wp_move (.tmp 0) rfl _ e0 ⟨_, rfl, told_of rfl, keepG (St := (S37 wr w.heap.size u5 L (P.dg ((j : Int) + 1) bs))) [26, 27, 28, 29, 30] S37.loc (by omega) (by decide) hJ⟩
          | 2, ho =>
            obtain rfl := Option.some.inj ho
            have e0 : a'.eval (.tmp 18) = P0 b := by have h9 := hin 1 18 (by kernel_rfl) (by kernel_rfl); exact h9.1.trans (told_is _ h9.2 rfl)
            exact o_nil (.tmp 18) rfl _ e0 ⟨_, rfl, told_of rfl, keepG (St := (S37 wr w.heap.size u5 L (P.dg ((j : Int) + 1) bs))) [26, 27, 28, 29, 30] S37.loc (by omega) (by decide) hJ⟩
          | 3, ho =>
            obtain rfl := Option.some.inj ho
            have e0 : a'.eval (.tmp 19) = P0 b := by have h9 := hin 2 19 (by kernel_rfl) (by kernel_rfl); exact h9.1.trans (told_is _ h9.2 rfl)
            exact o_fld32_0 (.tmp 19) rfl _ e0 ⟨_, rfl, told_of rfl, keepG (St := (S37 wr w.heap.size u5 L (P.dg ((j : Int) + 1) bs))) [26, 27, 28, 29, 30] S37.loc (by omega) (by decide) hJ⟩
          | 4, ho =>
            obtain rfl := Option.some.inj ho
            have e0 : a'.eval (.tmp 20) = .pointer (some ⟨b, 0, none⟩) := by have h9 := hin 3 20 (by kernel_rfl) (by kernel_rfl); exact h9.1.trans (told_is _ h9.2 rfl)
            exact o_load3 (.tmp 20) rfl _ _ e0 (fits_cell ((unhide HH).kept (hJ.1 (hnot 29 (by kernel_rfl))).1 (by simp)) 0 _ rfl) ⟨_, rfl, told_of rfl, keepG (St := (S37 wr w.heap.size u5 L (P.dg ((j : Int) + 1) bs))) [26, 27, 28, 29, 30] S37.loc (by omega) (by decide) hJ⟩
          | 5, ho =>
            obtain rfl := Option.some.inj ho
            have e0 := hout 0 (by kernel_rfl)
            replace e0 : a'.eval (.tmp 0) = _ := e0.trans rfl
            exact wp_move (.tmp 0) rfl _ e0 ⟨_, rfl, told_of rfl, keepG (St := (S37 wr w.heap.size u5 L (P.dg ((j : Int) + 1) bs))) [26, 27, 28, 29, 30] S37.loc (by omega) (by decide) hJ⟩
          | 6, ho =>
            obtain rfl := Option.some.inj ho
            have e0 : a'.eval (.tmp 22) = P0 b := by have h9 := hin 5 22 (by kernel_rfl) (by kernel_rfl); exact h9.1.trans (told_is _ h9.2 rfl)
            exact o_nil (.tmp 22) rfl _ e0 ⟨_, rfl, told_of rfl, keepG (St := (S37 wr w.heap.size u5 L (P.dg ((j : Int) + 1) bs))) [26, 27, 28, 29, 30] S37.loc (by omega) (by decide) hJ⟩
          | 7, ho =>
            obtain rfl := Option.some.inj ho
            have e0 : a'.eval (.tmp 23) = P0 b := by have h9 := hin 6 23 (by kernel_rfl) (by kernel_rfl); exact h9.1.trans (told_is _ h9.2 rfl)
            exact o_fld32_1 (.tmp 23) rfl _ e0 ⟨_, rfl, told_of rfl, keepG (St := (S37 wr w.heap.size u5 L (P.dg ((j : Int) + 1) bs))) [26, 27, 28, 29, 30] S37.loc (by omega) (by decide) hJ⟩
          | 8, ho =>
            obtain rfl := Option.some.inj ho
            have e0 : a'.eval (.tmp 24) = .pointer (some ⟨b, 1, none⟩) := by have h9 := hin 7 24 (by kernel_rfl) (by kernel_rfl); exact h9.1.trans (told_is _ h9.2 rfl)
            exact o_load3 (.tmp 24) rfl _ _ e0 (fits_cell ((unhide HH).kept (hJ.1 (hnot 29 (by kernel_rfl))).1 (by simp)) 1 _ rfl) ⟨_, rfl, told_of rfl, keepG (St := (S37 wr w.heap.size u5 L (P.dg ((j : Int) + 1) bs))) [26, 27, 28, 29, 30] S37.loc (by omega) (by decide) hJ⟩
          | 9, ho =>
            obtain rfl := Option.some.inj ho
            have e0 := hout 0 (by kernel_rfl)
            replace e0 : a'.eval (.tmp 0) = _ := e0.trans rfl
            exact wp_move (.tmp 0) rfl _ e0 ⟨_, rfl, told_of rfl, keepG (St := (S37 wr w.heap.size u5 L (P.dg ((j : Int) + 1) bs))) [26, 27, 28, 29, 30] S37.loc (by omega) (by decide) hJ⟩
          | 10, ho =>
            obtain rfl := Option.some.inj ho
            have e0 : a'.eval (.tmp 26) = P0 b := by have h9 := hin 9 26 (by kernel_rfl) (by kernel_rfl); exact h9.1.trans (told_is _ h9.2 rfl)
            exact o_nil (.tmp 26) rfl _ e0 ⟨_, rfl, told_of rfl, keepG (St := (S37 wr w.heap.size u5 L (P.dg ((j : Int) + 1) bs))) [26, 27, 28, 29, 30] S37.loc (by omega) (by decide) hJ⟩
          | 11, ho =>
            obtain rfl := Option.some.inj ho
            have e0 : a'.eval (.tmp 27) = P0 b := by have h9 := hin 10 27 (by kernel_rfl) (by kernel_rfl); exact h9.1.trans (told_is _ h9.2 rfl)
            exact o_fld32_2 (.tmp 27) rfl _ e0 ⟨_, rfl, told_of rfl, keepG (St := (S37 wr w.heap.size u5 L (P.dg ((j : Int) + 1) bs))) [26, 27, 28, 29, 30] S37.loc (by omega) (by decide) hJ⟩
          | 12, ho =>
            obtain rfl := Option.some.inj ho
            have e0 : a'.eval (.tmp 28) = .pointer (some ⟨b, 2, none⟩) := by have h9 := hin 11 28 (by kernel_rfl) (by kernel_rfl); exact h9.1.trans (told_is _ h9.2 rfl)
            exact o_load2 (.tmp 28) rfl _ _ e0 (fits_cell ((unhide HH).kept (hJ.1 (hnot 29 (by kernel_rfl))).1 (by simp)) 2 _ rfl) ⟨_, rfl, told_of rfl, keepG (St := (S37 wr w.heap.size u5 L (P.dg ((j : Int) + 1) bs))) [26, 27, 28, 29, 30] S37.loc (by omega) (by decide) hJ⟩
          | 13, ho =>
            obtain rfl := Option.some.inj ho
            have e0 := hout 6 (by kernel_rfl)
            replace e0 : a'.eval (.tmp 6) = _ := e0.trans rfl
            exact wp_move (.tmp 6) rfl _ e0 ⟨_, rfl, told_of rfl, keepG (St := (S37 wr w.heap.size u5 L (P.dg ((j : Int) + 1) bs))) [26, 27, 28, 29, 30] S37.loc (by omega) (by decide) hJ⟩
          | 14, ho =>
            obtain rfl := Option.some.inj ho
            have e0 : a'.eval (.tmp 30) = .int .i64 j := by have h9 := hin 13 30 (by kernel_rfl) (by kernel_rfl); exact h9.1.trans (told_is _ h9.2 rfl)
            exact o_add3 (.tmp 30) (.const (.int .i64 1)) rfl _ 1 (by have := unhide HJS; omega) e0 rfl ⟨_, rfl, told_of rfl, keepG (St := (S37 wr w.heap.size u5 L (P.dg ((j : Int) + 1) bs))) [26, 27, 28, 29, 30] S37.loc (by omega) (by decide) hJ⟩
          | 15, ho =>
            obtain rfl := Option.some.inj ho
            have e0 := hout 0 (by kernel_rfl)
            replace e0 : a'.eval (.tmp 0) = _ := e0.trans rfl
            exact wp_move (.tmp 0) rfl _ e0 ⟨_, rfl, told_of rfl, keepG (St := (S37 wr w.heap.size u5 L (P.dg ((j : Int) + 1) bs))) [26, 27, 28, 29, 30] S37.loc (by omega) (by decide) hJ⟩
          | 16, ho =>
            obtain rfl := Option.some.inj ho
            have e0 : a'.eval (.tmp 32) = P0 b := by have h9 := hin 15 32 (by kernel_rfl) (by kernel_rfl); exact h9.1.trans (told_is _ h9.2 rfl)
            exact o_nil (.tmp 32) rfl _ e0 ⟨_, rfl, told_of rfl, keepG (St := (S37 wr w.heap.size u5 L (P.dg ((j : Int) + 1) bs))) [26, 27, 28, 29, 30] S37.loc (by omega) (by decide) hJ⟩
          | 17, ho =>
            obtain rfl := Option.some.inj ho
            have e0 : a'.eval (.tmp 33) = P0 b := by have h9 := hin 16 33 (by kernel_rfl) (by kernel_rfl); exact h9.1.trans (told_is _ h9.2 rfl)
            exact o_fld32_6 (.tmp 33) rfl _ e0 ⟨_, rfl, told_of rfl, keepG (St := (S37 wr w.heap.size u5 L (P.dg ((j : Int) + 1) bs))) [26, 27, 28, 29, 30] S37.loc (by omega) (by decide) hJ⟩
          | 18, ho =>
            obtain rfl := Option.some.inj ho
            have e0 : a'.eval (.tmp 34) = .pointer (some ⟨b, 6, none⟩) := by have h9 := hin 17 34 (by kernel_rfl) (by kernel_rfl); exact h9.1.trans (told_is _ h9.2 rfl)
            exact o_load2 (.tmp 34) rfl _ _ e0 (fits_cell ((unhide HH).kept (hJ.1 (hnot 29 (by kernel_rfl))).1 (by simp)) 6 _ rfl) ⟨_, rfl, told_of rfl, keepG (St := (S37 wr w.heap.size u5 L (P.dg ((j : Int) + 1) bs))) [26, 27, 28, 29, 30] S37.loc (by omega) (by decide) hJ⟩
          | 19, ho =>
            obtain rfl := Option.some.inj ho
            have e0 := hout 0 (by kernel_rfl)
            replace e0 : a'.eval (.tmp 0) = _ := e0.trans rfl
            exact wp_move (.tmp 0) rfl _ e0 ⟨_, rfl, told_of rfl, keepG (St := (S37 wr w.heap.size u5 L (P.dg ((j : Int) + 1) bs))) [26, 27, 28, 29, 30] S37.loc (by omega) (by decide) hJ⟩
          | 20, ho =>
            obtain rfl := Option.some.inj ho
            have e0 : a'.eval (.tmp 36) = P0 b := by have h9 := hin 19 36 (by kernel_rfl) (by kernel_rfl); exact h9.1.trans (told_is _ h9.2 rfl)
            exact o_nil (.tmp 36) rfl _ e0 ⟨_, rfl, told_of rfl, keepG (St := (S37 wr w.heap.size u5 L (P.dg ((j : Int) + 1) bs))) [26, 27, 28, 29, 30] S37.loc (by omega) (by decide) hJ⟩
          | 21, ho =>
            obtain rfl := Option.some.inj ho
            have e0 : a'.eval (.tmp 37) = P0 b := by have h9 := hin 20 37 (by kernel_rfl) (by kernel_rfl); exact h9.1.trans (told_is _ h9.2 rfl)
            exact o_fld32_3 (.tmp 37) rfl _ e0 ⟨_, rfl, told_of rfl, keepG (St := (S37 wr w.heap.size u5 L (P.dg ((j : Int) + 1) bs))) [26, 27, 28, 29, 30] S37.loc (by omega) (by decide) hJ⟩
          | 22, ho =>
            obtain rfl := Option.some.inj ho
            have e0 : a'.eval (.tmp 38) = .pointer (some ⟨b, 3, none⟩) := by have h9 := hin 21 38 (by kernel_rfl) (by kernel_rfl); exact h9.1.trans (told_is _ h9.2 rfl)
            exact o_load30 (.tmp 38) rfl _ _ e0 (fits_cell ((unhide HH).kept (hJ.1 (hnot 29 (by kernel_rfl))).1 (by simp)) 3 _ rfl) ⟨_, rfl, told_of rfl, keepG (St := (S37 wr w.heap.size u5 L (P.dg ((j : Int) + 1) bs))) [26, 27, 28, 29, 30] S37.loc (by omega) (by decide) hJ⟩
          | 23, ho =>
            obtain rfl := Option.some.inj ho
            have e0 := hout 6 (by kernel_rfl)
            replace e0 : a'.eval (.tmp 6) = _ := e0.trans rfl
            exact wp_move (.tmp 6) rfl _ e0 ⟨_, rfl, told_of rfl, keepG (St := (S37 wr w.heap.size u5 L (P.dg ((j : Int) + 1) bs))) [26, 27, 28, 29, 30] S37.loc (by omega) (by decide) hJ⟩
          | 24, ho =>
            obtain rfl := Option.some.inj ho
            have e0 : a'.eval (.tmp 39) = .slice (some ⟨g, off, none⟩) ws.length vc := by have h9 := hin 22 39 (by kernel_rfl) (by kernel_rfl); exact h9.1.trans (told_is _ h9.2 rfl)
            have e1 : a'.eval (.tmp 40) = .int .i64 j := by have h9 := hin 23 40 (by kernel_rfl) (by kernel_rfl); exact h9.1.trans (told_is _ h9.2 rfl)
            exact o_idx30 (.tmp 39) (.tmp 40) rfl g off ws.length vc j (unhide HJL) e0 e1 ⟨_, rfl, told_of rfl, keepG (St := (S37 wr w.heap.size u5 L (P.dg ((j : Int) + 1) bs))) [26, 27, 28, 29, 30] S37.loc (by omega) (by decide) hJ⟩
          | 25, ho =>
            obtain rfl := Option.some.inj ho
            have e0 : a'.eval (.tmp 41) = .pointer (some ⟨g, off + j, none⟩) := by have h9 := hin 24 41 (by kernel_rfl) (by kernel_rfl); exact h9.1.trans (told_is _ h9.2 rfl)
            exact o_load33 (.tmp 41) rfl _ _ e0 ((hJ.1 (hnot 29 (by kernel_rfl))).1.cell (unhide HCE) (by simp)) ⟨_, rfl, told_of rfl, keepG (St := (S37 wr w.heap.size u5 L (P.dg ((j : Int) + 1) bs))) [26, 27, 28, 29, 30] S37.loc (by omega) (by decide) hJ⟩
          | 26, ho =>
            obtain rfl := Option.some.inj ho
            have e0 : a'.eval (.tmp 42) = .slice uo bs.length uc := by have h9 := hin 25 42 (by kernel_rfl) (by kernel_rfl); exact h9.1.trans (told_is _ h9.2 rfl)
            have hk0 := (hJ.1 (hnot 29 (by kernel_rfl))).1
            refine o_appB (.tmp 42) rfl uo bs.length uc bs e0 (unhide HUN) ((unhide HUV).kept hk0 (fun _ _ _ => by simp)) (unhide HBY) (by have := unhide HBL2; omega) fun u w3 hB3 hf3 hk3 => ?_
            exact ⟨_, rfl, told_no rfl, nextG (St := (S37 wr w.heap.size u5 L (P.dg ((j : Int) + 1) bs))) (by omega) ⟨fun h29 => ⟨hk0.trans hk3, fun _ => ⟨hB3, fun k hk => by have := hf3 k hk; have := hk0.size; omega⟩, (fun h27 => by have h9 : l.getD 27 false = true := h27; rw [hnot 27 (by kernel_rfl)] at h9; cases h9), (fun h28 => by have h9 : l.getD 28 false = true := h28; rw [hnot 28 (by kernel_rfl)] at h9; cases h9)⟩, (fun h29 => by have h9 : l.getD 29 false = true := h29; rw [hnot 29 (by kernel_rfl)] at h9; cases h9), (fun h30 => by have h9 : l.getD 30 false = true := h30; rw [hnot 30 (by kernel_rfl)] at h9; cases h9)⟩⟩
          | 27, ho =>
            obtain rfl := Option.some.inj ho
            have e0 : a'.eval (.tmp 21) = .int .i64 P.me := by have h9 := hin 4 21 (by kernel_rfl) (by kernel_rfl); exact h9.1.trans (told_is _ h9.2 rfl)
            have e1 : a'.eval (.tmp 25) = .int .i64 P.oth := by have h9 := hin 8 25 (by kernel_rfl) (by kernel_rfl); exact h9.1.trans (told_is _ h9.2 rfl)
            have e2 : a'.eval (.tmp 29) = .int .i64 P.view := by have h9 := hin 12 29 (by kernel_rfl) (by kernel_rfl); exact h9.1.trans (told_is _ h9.2 rfl)
            have e3 : a'.eval (.tmp 31) = .int .i64 ((j : Int) + 1) := by have h9 := hin 14 31 (by kernel_rfl) (by kernel_rfl); exact h9.1.trans (told_is _ h9.2 rfl)
            have e4 : a'.eval (.tmp 35) = .int .i64 P.got := by have h9 := hin 18 35 (by kernel_rfl) (by kernel_rfl); exact h9.1.trans (told_is _ h9.2 rfl)
            have e5 : a'.eval (.tmp 43) = vs 26 := (hin 26 43 (by kernel_rfl) (by kernel_rfl)).1
            have hJ1 := hJ.1 (hnot 29 (by kernel_rfl))
            obtain ⟨hB6, hf6⟩ := hJ1.2.1 (hdep 26 (by kernel_rfl))
            obtain ⟨u9, c9, hu9, _, _⟩ := hB6.sl
            exact o_bldD (.tmp 21) (.tmp 25) (.tmp 29) (.tmp 31) (.tmp 35) (.tmp 43) rfl (P.dg ((j : Int) + 1) bs) (vs 26) ⟨u9, _, c9, hu9⟩ e0 e1 e2 e3 e4 e5 ⟨_, rfl, told_no rfl, nextG (St := (S37 wr w.heap.size u5 L (P.dg ((j : Int) + 1) bs))) (by omega) ⟨fun h29 => ⟨hJ1.1, fun _ => ⟨hB6, hf6⟩, fun _ => ⟨rfl, hdep 26 (by kernel_rfl)⟩, (fun h28 => by have h9 : l.getD 28 false = true := h28; rw [hnot 28 (by kernel_rfl)] at h9; cases h9)⟩, (fun h29 => by have h9 : l.getD 29 false = true := h29; rw [hnot 29 (by kernel_rfl)] at h9; cases h9), (fun h30 => by have h9 : l.getD 30 false = true := h30; rw [hnot 30 (by kernel_rfl)] at h9; cases h9)⟩⟩
          | 28, ho =>
            obtain rfl := Option.some.inj ho
            have e0 : a'.eval (.tmp 44) = vs 27 := (hin 27 44 (by kernel_rfl) (by kernel_rfl)).1
            have hJ1 := hJ.1 (hnot 29 (by kernel_rfl))
            obtain ⟨h27, h26⟩ := hJ1.2.2.1 (hdep 27 (by kernel_rfl))
            obtain ⟨hB6, hf6⟩ := hJ1.2.1 h26
            obtain ⟨u9, c9, hu9, _, _⟩ := hB6.sl
            exact o_bsD (.tmp 44) rfl (P.dg ((j : Int) + 1) bs) (vs 26) ⟨u9, _, c9, hu9⟩ (e0.trans h27) ⟨_, rfl, told_no rfl, nextG (St := (S37 wr w.heap.size u5 L (P.dg ((j : Int) + 1) bs))) (by omega) ⟨fun h29 => ⟨hJ1.1.alloc _, fun _ => ⟨hB6.kept ((Kept.refl [] _).alloc _) (by simp), hf6⟩, fun _ => ⟨h27, h26⟩, fun _ => ⟨w2.heap.size, rfl, Blk.new w2 35 _, h26⟩⟩, (fun h29 => by have h9 : l.getD 29 false = true := h29; rw [hnot 29 (by kernel_rfl)] at h9; cases h9), (fun h30 => by have h9 : l.getD 30 false = true := h30; rw [hnot 30 (by kernel_rfl)] at h9; cases h9)⟩⟩
          | 29, ho =>
            obtain rfl := Option.some.inj ho
            have e0 : a'.eval (.tmp 17) = u5 := by have h9 := hin 0 17 (by kernel_rfl) (by kernel_rfl); exact h9.1.trans (told_is _ h9.2 rfl)
            have e1 : a'.eval (.tmp 45) = vs 28 := (hin 28 45 (by kernel_rfl) (by kernel_rfl)).1
            have hJ1 := hJ.1 hlf
            obtain ⟨p, hp, hBp, h26⟩ := hJ1.2.2.2 (hdep 28 (by kernel_rfl))
            obtain ⟨hB6, hf6⟩ := hJ1.2.1 h26
            exact o_appD (.tmp 17) (.tmp 45) rfl w.heap.size u5 L e0 ((unhide HD).kept0 hJ1.1) p (P.dg ((j : Int) + 1) bs) (vs 26) (e1.trans hp) hBp hB6 (fun k e => by have := hf6 k e; have := (unhide HK).size; omega) (by have := unhide HLL; have := unhide HQ; have := unhide HJS; omega) (by have := (unhide HK).size; have := hJ1.1.size; omega) fun v' w' h1 h2 h3 => ⟨_, rfl, told_no rfl, nextG (St := (S37 wr w.heap.size u5 L (P.dg ((j : Int) + 1) bs))) (by omega) ⟨(fun h => by cases h), fun _ => ⟨vs 26, h1, (hJ1.1.mono (by simp)).trans h2⟩, (fun h30 => by have h9 : l.getD 30 false = true := h30; rw [hnot 30 (by kernel_rfl)] at h9; cases h9)⟩⟩
          | 30, ho =>
            obtain rfl := Option.some.inj ho
            have e0 : a'.eval (.tmp 46) = vs 29 := (hin 29 46 (by kernel_rfl) (by kernel_rfl)).1
            exact wp_assignV (.tmp 46) rfl _ e0 ⟨_, rfl, told_no rfl, nextG (St := (S37 wr w.heap.size u5 L (P.dg ((j : Int) + 1) bs))) (by omega) ⟨fun h29 => (by have h9 : l.getD 29 false = false := h29; rw [hdep 29 (by kernel_rfl)] at h9; cases h9), hJ.2.1, fun _ => rfl⟩⟩
        intro l vs w8 hl hJ htold
        have t0 : vs 0 = u5 := told_is _ (htold 0 (by decide)) rfl
        have t1 : vs 1 = P0 b := told_is _ (htold 1 (by decide)) rfl
        have t2 : vs 2 = P0 b := told_is _ (htold 2 (by decide)) rfl
        have t3 : vs 3 = .pointer (some ⟨b, 0, none⟩) := told_is _ (htold 3 (by decide)) rfl
        have t4 : vs 4 = .int .i64 P.me := told_is _ (htold 4 (by decide)) rfl
        have t5 : vs 5 = P0 b := told_is _ (htold 5 (by decide)) rfl
        have t6 : vs 6 = P0 b := told_is _ (htold 6 (by decide)) rfl
        have t7 : vs 7 = .pointer (some ⟨b, 1, none⟩) := told_is _ (htold 7 (by decide)) rfl
        have t8 : vs 8 = .int .i64 P.oth := told_is _ (htold 8 (by decide)) rfl
        have t9 : vs 9 = P0 b := told_is _ (htold 9 (by decide)) rfl
        have t10 : vs 10 = P0 b := told_is _ (htold 10 (by decide)) rfl
        have t11 : vs 11 = .pointer (some ⟨b, 2, none⟩) := told_is _ (htold 11 (by decide)) rfl
        have t12 : vs 12 = .int .i64 P.view := told_is _ (htold 12 (by decide)) rfl
        have t13 : vs 13 = .int .i64 j := told_is _ (htold 13 (by decide)) rfl
        have t14 : vs 14 = .int .i64 ((j : Int) + 1) := told_is _ (htold 14 (by decide)) rfl
        have t15 : vs 15 = P0 b := told_is _ (htold 15 (by decide)) rfl
        have t16 : vs 16 = P0 b := told_is _ (htold 16 (by decide)) rfl
        have t17 : vs 17 = .pointer (some ⟨b, 6, none⟩) := told_is _ (htold 17 (by decide)) rfl
        have t18 : vs 18 = .int .i64 P.got := told_is _ (htold 18 (by decide)) rfl
        have t19 : vs 19 = P0 b := told_is _ (htold 19 (by decide)) rfl
        have t20 : vs 20 = P0 b := told_is _ (htold 20 (by decide)) rfl
        have t21 : vs 21 = .pointer (some ⟨b, 3, none⟩) := told_is _ (htold 21 (by decide)) rfl
        have t22 : vs 22 = .slice (some ⟨g, off, none⟩) ws.length vc := told_is _ (htold 22 (by decide)) rfl
        have t23 : vs 23 = .int .i64 j := told_is _ (htold 23 (by decide)) rfl
        have t24 : vs 24 = .pointer (some ⟨g, off + j, none⟩) := told_is _ (htold 24 (by decide)) rfl
        have t25 : vs 25 = .slice uo bs.length uc := told_is _ (htold 25 (by decide)) rfl
        rw [show (List.range 31).map vs = [vs 0, vs 1, vs 2, vs 3, vs 4, vs 5, vs 6, vs 7, vs 8, vs 9, vs 10, vs 11, vs 12, vs 13, vs 14, vs 15, vs 16, vs 17, vs 18, vs 19, vs 20, vs 21, vs 22, vs 23, vs 24, vs 25, vs 26, vs 27, vs 28, vs 29, vs 30] from rfl]
        simp only [t0, t1, t2, t3, t4, t5, t6, t7, t8, t9, t10, t11, t12, t13, t14, t15, t16, t17, t18, t19, t20, t21, t22, t23, t24, t25, putAll, Act.put, List.setIfInBounds_toArray, List.set_cons_succ, List.set_cons_zero]
        clear t0 t1 t2 t3 t4 t5 t6 t7 t8 t9 t10 t11 t12 t13 t14 t15 t16 t17 t18 t19 t20 t21 t22 t23 t24 t25 htold
        obtain ⟨nu, hDn, hKn⟩ := hJ.2.1 (hl 29 (by decide))
        have h30 := hJ.2.2 (hl 30 (by decide))
        rw [h30]
        have HD8 := hide hDn
        replace HK : Hid (Kept [] w w8) := (unhide HK).fresh hKn (fun i hi hl => by have h9 := ((unhide HD).row.lt i (by simpa using hi)).1; omega)
        clear hJ hl h30 hDn hKn
        go_wp2_with fail
        go_roundw
        case rel => exact ⟨j + 1, q + 1, _, by omega, by go_num, hide (by have := unhide HQ; omega), HD8, hide (by rw [List.map_append, unhide HL, List.range_succ, List.map_append, List.map_singleton, List.map_singleton, unhide HAT]), HK⟩
        case measure => simp [intOf]; omega
    · have hltI : ¬ (j : Int) < (N : Int) := by omega
      have HJN : Hid (j = N) := (by omega : j = N)
      have HKV := HK
      have hc3 := fits_cell (unhide HH) 3 _ rfl
      obtain ⟨vo9, vc9, hv9, _, _⟩ := (unhide HS).sl
      rw [hv9, unhide HN] at hc3
      obtain ⟨so, sc, rfl⟩ := owns_slN (unhide HD).row
      clear hv9
      by_cases hz : L.length = 0
      · have hLnil : L = [] := List.length_eq_zero_iff.1 hz
        subst hLnil
        have HSL : Hid (P.sent.length ≤ f) := by have h1 := unhide HLN; have h2 := unhide HLL; have h3 := unhide HJN; have h4 := unhide HQ; have h5 := unhide HN; simp at h2; exact (by omega : P.sent.length ≤ f)
        have hc7 := fits_cell (unhide HH) 7 _ rfl
        clear hj hz
        cases ho : P.owes with
        | true =>
          rw [ho] at hc7
          have HOW := hide ho
          clear ho
          go_wp2_with fail
          clear hc7 hc3
          refine wp_region_any mixed (wpAny_gx 21 rfl (by kernel_rfl) [some (.slice so ([] : List (Dg × Value)).length sc), some (P0 b), some (P0 b), some (.pointer (some ⟨b, 0, none⟩)), some (.int .i64 P.me), some (P0 b), some (P0 b), some (.pointer (some ⟨b, 1, none⟩)), some (.int .i64 P.oth), some (P0 b), some (P0 b), some (.pointer (some ⟨b, 2, none⟩)), some (.int .i64 P.view), some (P0 b), some (P0 b), some (.pointer (some ⟨b, 6, none⟩)), some (.int .i64 P.got), some (aggV ((P.dg 0 []).C (.slice none 0 0))), none, none, none] rfl (by kernel_rfl) (fun l vs W => (S37b wr w.heap.size (.slice so ([] : List (Dg × Value)).length sc) (P.dg 0 [])) (fun i => l.getD i false) vs W) (⟨fun _ => ⟨⟨rfl, rfl, rfl, Nat.le_refl _, fun _ _ _ => rfl⟩, (fun h => by cases h)⟩, (fun h => by cases h), (fun h => by cases h)⟩) ?_ ?_)
          · intro ix o' hi ho a' w2 l vs hls hlf hJ hout hin hdep hnot
            match ix, ho with
            | 0, ho =>
              obtain rfl := Option.some.inj ho
              have e0 := hout 5 (by kernel_rfl)
              replace e0 : a'.eval (.tmp 5) = _ := e0.trans rfl
              exact wp_move (.tmp 5) rfl _ e0 ⟨_, rfl, told_of rfl, keepG (St := (S37b wr w.heap.size (.slice so ([] : List (Dg × Value)).length sc) (P.dg 0 []))) [18, 19, 20] S37b.loc (by omega) (by decide) hJ⟩
            | 1, ho =>
              obtain rfl := Option.some.inj ho
              have e0 := hout 0 (by kernel_rfl)
              replace e0 : a'.eval (.tmp 0) = _ := e0.trans rfl
              exact wp_move (.tmp 0) rfl _ e0 ⟨_, rfl, told_of rfl, keepG (St := (S37b wr w.heap.size (.slice so ([] : List (Dg × Value)).length sc) (P.dg 0 []))) [18, 19, 20] S37b.loc (by omega) (by decide) hJ⟩
            | 2, ho =>
              obtain rfl := Option.some.inj ho
              have e0 : a'.eval (.tmp 57) = P0 b := by have h9 := hin 1 57 (by kernel_rfl) (by kernel_rfl); exact h9.1.trans (told_is _ h9.2 rfl)
              exact o_nil (.tmp 57) rfl _ e0 ⟨_, rfl, told_of rfl, keepG (St := (S37b wr w.heap.size (.slice so ([] : List (Dg × Value)).length sc) (P.dg 0 []))) [18, 19, 20] S37b.loc (by omega) (by decide) hJ⟩
            | 3, ho =>
              obtain rfl := Option.some.inj ho
              have e0 : a'.eval (.tmp 58) = P0 b := by have h9 := hin 2 58 (by kernel_rfl) (by kernel_rfl); exact h9.1.trans (told_is _ h9.2 rfl)
              exact o_fld32_0 (.tmp 58) rfl _ e0 ⟨_, rfl, told_of rfl, keepG (St := (S37b wr w.heap.size (.slice so ([] : List (Dg × Value)).length sc) (P.dg 0 []))) [18, 19, 20] S37b.loc (by omega) (by decide) hJ⟩
            | 4, ho =>
              obtain rfl := Option.some.inj ho
              have e0 : a'.eval (.tmp 59) = .pointer (some ⟨b, 0, none⟩) := by have h9 := hin 3 59 (by kernel_rfl) (by kernel_rfl); exact h9.1.trans (told_is _ h9.2 rfl)
              exact o_load3 (.tmp 59) rfl _ _ e0 (fits_cell ((unhide HH).kept (hJ.1 (hnot 19 (by kernel_rfl))).1 (by simp)) 0 _ rfl) ⟨_, rfl, told_of rfl, keepG (St := (S37b wr w.heap.size (.slice so ([] : List (Dg × Value)).length sc) (P.dg 0 []))) [18, 19, 20] S37b.loc (by omega) (by decide) hJ⟩
            | 5, ho =>
              obtain rfl := Option.some.inj ho
              have e0 := hout 0 (by kernel_rfl)
              replace e0 : a'.eval (.tmp 0) = _ := e0.trans rfl
              exact wp_move (.tmp 0) rfl _ e0 ⟨_, rfl, told_of rfl, keepG (St := (S37b wr w.heap.size (.slice so ([] : List (Dg × Value)).length sc) (P.dg 0 []))) [18, 19, 20] S37b.loc (by omega) (by decide) hJ⟩
            | 6, ho =>
              obtain rfl := Option.some.inj ho
              have e0 : a'.eval (.tmp 61) = P0 b := by have h9 := hin 5 61 (by kernel_rfl) (by kernel_rfl); exact h9.1.trans (told_is _ h9.2 rfl)
              exact o_nil (.tmp 61) rfl _ e0 ⟨_, rfl, told_of rfl, keepG (St := (S37b wr w.heap.size (.slice so ([] : List (Dg × Value)).length sc) (P.dg 0 []))) [18, 19, 20] S37b.loc (by omega) (by decide) hJ⟩
            | 7, ho =>
              obtain rfl := Option.some.inj ho
              have e0 : a'.eval (.tmp 62) = P0 b := by have h9 := hin 6 62 (by kernel_rfl) (by kernel_rfl); exact h9.1.trans (told_is _ h9.2 rfl)
              exact o_fld32_1 (.tmp 62) rfl _ e0 ⟨_, rfl, told_of rfl, keepG (St := (S37b wr w.heap.size (.slice so ([] : List (Dg × Value)).length sc) (P.dg 0 []))) [18, 19, 20] S37b.loc (by omega) (by decide) hJ⟩
            | 8, ho =>
              obtain rfl := Option.some.inj ho
              have e0 : a'.eval (.tmp 63) = .pointer (some ⟨b, 1, none⟩) := by have h9 := hin 7 63 (by kernel_rfl) (by kernel_rfl); exact h9.1.trans (told_is _ h9.2 rfl)
              exact o_load3 (.tmp 63) rfl _ _ e0 (fits_cell ((unhide HH).kept (hJ.1 (hnot 19 (by kernel_rfl))).1 (by simp)) 1 _ rfl) ⟨_, rfl, told_of rfl, keepG (St := (S37b wr w.heap.size (.slice so ([] : List (Dg × Value)).length sc) (P.dg 0 []))) [18, 19, 20] S37b.loc (by omega) (by decide) hJ⟩
            | 9, ho =>
              obtain rfl := Option.some.inj ho
              have e0 := hout 0 (by kernel_rfl)
              replace e0 : a'.eval (.tmp 0) = _ := e0.trans rfl
              exact wp_move (.tmp 0) rfl _ e0 ⟨_, rfl, told_of rfl, keepG (St := (S37b wr w.heap.size (.slice so ([] : List (Dg × Value)).length sc) (P.dg 0 []))) [18, 19, 20] S37b.loc (by omega) (by decide) hJ⟩
            | 10, ho =>
              obtain rfl := Option.some.inj ho
              have e0 : a'.eval (.tmp 65) = P0 b := by have h9 := hin 9 65 (by kernel_rfl) (by kernel_rfl); exact h9.1.trans (told_is _ h9.2 rfl)
              exact o_nil (.tmp 65) rfl _ e0 ⟨_, rfl, told_of rfl, keepG (St := (S37b wr w.heap.size (.slice so ([] : List (Dg × Value)).length sc) (P.dg 0 []))) [18, 19, 20] S37b.loc (by omega) (by decide) hJ⟩
            | 11, ho =>
              obtain rfl := Option.some.inj ho
              have e0 : a'.eval (.tmp 66) = P0 b := by have h9 := hin 10 66 (by kernel_rfl) (by kernel_rfl); exact h9.1.trans (told_is _ h9.2 rfl)
              exact o_fld32_2 (.tmp 66) rfl _ e0 ⟨_, rfl, told_of rfl, keepG (St := (S37b wr w.heap.size (.slice so ([] : List (Dg × Value)).length sc) (P.dg 0 []))) [18, 19, 20] S37b.loc (by omega) (by decide) hJ⟩
            | 12, ho =>
              obtain rfl := Option.some.inj ho
              have e0 : a'.eval (.tmp 67) = .pointer (some ⟨b, 2, none⟩) := by have h9 := hin 11 67 (by kernel_rfl) (by kernel_rfl); exact h9.1.trans (told_is _ h9.2 rfl)
              exact o_load2 (.tmp 67) rfl _ _ e0 (fits_cell ((unhide HH).kept (hJ.1 (hnot 19 (by kernel_rfl))).1 (by simp)) 2 _ rfl) ⟨_, rfl, told_of rfl, keepG (St := (S37b wr w.heap.size (.slice so ([] : List (Dg × Value)).length sc) (P.dg 0 []))) [18, 19, 20] S37b.loc (by omega) (by decide) hJ⟩
            | 13, ho =>
              obtain rfl := Option.some.inj ho
              have e0 := hout 0 (by kernel_rfl)
              replace e0 : a'.eval (.tmp 0) = _ := e0.trans rfl
              exact wp_move (.tmp 0) rfl _ e0 ⟨_, rfl, told_of rfl, keepG (St := (S37b wr w.heap.size (.slice so ([] : List (Dg × Value)).length sc) (P.dg 0 []))) [18, 19, 20] S37b.loc (by omega) (by decide) hJ⟩
            | 14, ho =>
              obtain rfl := Option.some.inj ho
              have e0 : a'.eval (.tmp 69) = P0 b := by have h9 := hin 13 69 (by kernel_rfl) (by kernel_rfl); exact h9.1.trans (told_is _ h9.2 rfl)
              exact o_nil (.tmp 69) rfl _ e0 ⟨_, rfl, told_of rfl, keepG (St := (S37b wr w.heap.size (.slice so ([] : List (Dg × Value)).length sc) (P.dg 0 []))) [18, 19, 20] S37b.loc (by omega) (by decide) hJ⟩
            | 15, ho =>
              obtain rfl := Option.some.inj ho
              have e0 : a'.eval (.tmp 70) = P0 b := by have h9 := hin 14 70 (by kernel_rfl) (by kernel_rfl); exact h9.1.trans (told_is _ h9.2 rfl)
              exact o_fld32_6 (.tmp 70) rfl _ e0 ⟨_, rfl, told_of rfl, keepG (St := (S37b wr w.heap.size (.slice so ([] : List (Dg × Value)).length sc) (P.dg 0 []))) [18, 19, 20] S37b.loc (by omega) (by decide) hJ⟩
            | 16, ho =>
              obtain rfl := Option.some.inj ho
              have e0 : a'.eval (.tmp 71) = .pointer (some ⟨b, 6, none⟩) := by have h9 := hin 15 71 (by kernel_rfl) (by kernel_rfl); exact h9.1.trans (told_is _ h9.2 rfl)
              exact o_load2 (.tmp 71) rfl _ _ e0 (fits_cell ((unhide HH).kept (hJ.1 (hnot 19 (by kernel_rfl))).1 (by simp)) 6 _ rfl) ⟨_, rfl, told_of rfl, keepG (St := (S37b wr w.heap.size (.slice so ([] : List (Dg × Value)).length sc) (P.dg 0 []))) [18, 19, 20] S37b.loc (by omega) (by decide) hJ⟩
            | 17, ho =>
              obtain rfl := Option.some.inj ho
              have e0 : a'.eval (.tmp 60) = .int .i64 P.me := by have h9 := hin 4 60 (by kernel_rfl) (by kernel_rfl); exact h9.1.trans (told_is _ h9.2 rfl)
              have e1 : a'.eval (.tmp 64) = .int .i64 P.oth := by have h9 := hin 8 64 (by kernel_rfl) (by kernel_rfl); exact h9.1.trans (told_is _ h9.2 rfl)
              have e2 : a'.eval (.tmp 68) = .int .i64 P.view := by have h9 := hin 12 68 (by kernel_rfl) (by kernel_rfl); exact h9.1.trans (told_is _ h9.2 rfl)
              have e3 : a'.eval (.tmp 72) = .int .i64 P.got := by have h9 := hin 16 72 (by kernel_rfl) (by kernel_rfl); exact h9.1.trans (told_is _ h9.2 rfl)
              exact wp_buildP _ rfl #[(0, .int .i64 P.me), (1, .int .i64 P.oth), (2, .int .i64 P.view), (4, .int .i64 P.got)] (by simp [e0, e1, e2, e3]) _ (build35o _ _ _ _ _) ⟨_, rfl, told_of rfl, keepG (St := (S37b wr w.heap.size (.slice so ([] : List (Dg × Value)).length sc) (P.dg 0 []))) [18, 19, 20] S37b.loc (by omega) (by decide) hJ⟩
            | 18, ho =>
              obtain rfl := Option.some.inj ho
              have e0 : a'.eval (.tmp 73) = aggV ((P.dg 0 []).C (.slice none 0 0)) := by have h9 := hin 17 73 (by kernel_rfl) (by kernel_rfl); exact h9.1.trans (told_is _ h9.2 rfl)
              have hJ1 := hJ.1 (hnot 19 (by kernel_rfl))
              exact o_bsD (.tmp 73) rfl (P.dg 0 []) (.slice none 0 0) ⟨_, _, _, rfl⟩ e0 ⟨_, rfl, told_no rfl, nextG (St := (S37b wr w.heap.size (.slice so ([] : List (Dg × Value)).length sc) (P.dg 0 []))) (by omega) ⟨fun h19 => ⟨hJ1.1.alloc _, fun _ => ⟨w2.heap.size, rfl, Blk.new w2 35 _⟩⟩, (fun h19 => by have h9 : l.getD 19 false = true := h19; rw [hnot 19 (by kernel_rfl)] at h9; cases h9), (fun h20 => by have h9 : l.getD 20 false = true := h20; rw [hnot 20 (by kernel_rfl)] at h9; cases h9)⟩⟩
            | 19, ho =>
              obtain rfl := Option.some.inj ho
              have e0 : a'.eval (.tmp 56) = .slice so ([] : List (Dg × Value)).length sc := by have h9 := hin 0 56 (by kernel_rfl) (by kernel_rfl); exact h9.1.trans (told_is _ h9.2 rfl)
              have e1 : a'.eval (.tmp 74) = vs 18 := (hin 18 74 (by kernel_rfl) (by kernel_rfl)).1
              have hJ1 := hJ.1 hlf
              obtain ⟨p, hp, hBp⟩ := hJ1.2 (hdep 18 (by kernel_rfl))
              exact o_appD (.tmp 56) (.tmp 74) rfl w.heap.size _ [] e0 ((unhide HD).kept0 hJ1.1) p (P.dg 0 []) (.slice none 0 0) (e1.trans hp) hBp (bod_nil _) (fun k e => by cases e) (by simp) (by have := (unhide HK).size; have := hJ1.1.size; omega) fun v' w' h1 h2 h3 => ⟨_, rfl, told_no rfl, nextG (St := (S37b wr w.heap.size (.slice so ([] : List (Dg × Value)).length sc) (P.dg 0 []))) (by omega) ⟨(fun h => by cases h), fun _ => ⟨.slice none 0 0, h1, (hJ1.1.mono (by simp)).trans h2⟩, (fun h20 => by have h9 : l.getD 20 false = true := h20; rw [hnot 20 (by kernel_rfl)] at h9; cases h9)⟩⟩
            | 20, ho =>
              obtain rfl := Option.some.inj ho
              have e0 : a'.eval (.tmp 75) = vs 19 := (hin 19 75 (by kernel_rfl) (by kernel_rfl)).1
              exact wp_assignV (.tmp 75) rfl _ e0 ⟨_, rfl, told_no rfl, nextG (St := (S37b wr w.heap.size (.slice so ([] : List (Dg × Value)).length sc) (P.dg 0 []))) (by omega) ⟨fun h19 => (by have h9 : l.getD 19 false = false := h19; rw [hdep 19 (by kernel_rfl)] at h9; cases h9), hJ.2.1, fun _ => rfl⟩⟩
          intro l vs w8 hl hJ htold
          have t0 : vs 0 = .slice so ([] : List (Dg × Value)).length sc := told_is _ (htold 0 (by decide)) rfl
          have t1 : vs 1 = P0 b := told_is _ (htold 1 (by decide)) rfl
          have t2 : vs 2 = P0 b := told_is _ (htold 2 (by decide)) rfl
          have t3 : vs 3 = .pointer (some ⟨b, 0, none⟩) := told_is _ (htold 3 (by decide)) rfl
          have t4 : vs 4 = .int .i64 P.me := told_is _ (htold 4 (by decide)) rfl
          have t5 : vs 5 = P0 b := told_is _ (htold 5 (by decide)) rfl
          have t6 : vs 6 = P0 b := told_is _ (htold 6 (by decide)) rfl
          have t7 : vs 7 = .pointer (some ⟨b, 1, none⟩) := told_is _ (htold 7 (by decide)) rfl
          have t8 : vs 8 = .int .i64 P.oth := told_is _ (htold 8 (by decide)) rfl
          have t9 : vs 9 = P0 b := told_is _ (htold 9 (by decide)) rfl
          have t10 : vs 10 = P0 b := told_is _ (htold 10 (by decide)) rfl
          have t11 : vs 11 = .pointer (some ⟨b, 2, none⟩) := told_is _ (htold 11 (by decide)) rfl
          have t12 : vs 12 = .int .i64 P.view := told_is _ (htold 12 (by decide)) rfl
          have t13 : vs 13 = P0 b := told_is _ (htold 13 (by decide)) rfl
          have t14 : vs 14 = P0 b := told_is _ (htold 14 (by decide)) rfl
          have t15 : vs 15 = .pointer (some ⟨b, 6, none⟩) := told_is _ (htold 15 (by decide)) rfl
          have t16 : vs 16 = .int .i64 P.got := told_is _ (htold 16 (by decide)) rfl
          have t17 : vs 17 = aggV ((P.dg 0 []).C (.slice none 0 0)) := told_is _ (htold 17 (by decide)) rfl
          rw [show (List.range 21).map vs = [vs 0, vs 1, vs 2, vs 3, vs 4, vs 5, vs 6, vs 7, vs 8, vs 9, vs 10, vs 11, vs 12, vs 13, vs 14, vs 15, vs 16, vs 17, vs 18, vs 19, vs 20] from rfl]
          simp only [t0, t1, t2, t3, t4, t5, t6, t7, t8, t9, t10, t11, t12, t13, t14, t15, t16, t17, putAll, Act.put, List.setIfInBounds_toArray, List.set_cons_succ, List.set_cons_zero]
          clear t0 t1 t2 t3 t4 t5 t6 t7 t8 t9 t10 t11 t12 t13 t14 t15 t16 t17 htold
          obtain ⟨nu, hDn, hKn⟩ := hJ.2.1 (hl 19 (by decide))
          have h20 := hJ.2.2 (hl 20 (by decide))
          rw [h20]
          have HK8 : Hid (Kept [] w w8) := (unhide HK).fresh hKn (fun i hi hl => by have h9 := ((unhide HD).row.lt i (by simpa using hi)).1; omega)
          replace HS : Hid (Rx w8 b v ws P) := (unhide HS).kept hKn (fun hm => by have h9 := ((unhide HD).row.lt b (by simpa using hm)).1; have h8 := unhide HBL; omega) (fun k e hm => by have h9 := ((unhide HD).row.lt k (by simpa using hm)).1; have h8 := unhide HVLO k e; omega) (fun u hu k e hm => by
            obtain ⟨bs, hb⟩ := (unhide HS).bod hu
            obtain ⟨cs, hc⟩ := hb.block k e
            obtain ⟨cs', hc'⟩ := owns_block (unhide HD).row k (by simpa using hm)
            rw [hc] at hc'
            cases hc')
          replace HD := hide hDn
          replace HKV := HK8
          clear hJ hl h20 hDn hKn HK8 HH
          have HH := hide (unhide HS).head
          obtain ⟨vo3, vc3, hv3, _, _⟩ := (unhide HS).sl
          have hc3n := fits_cell (unhide HH) 3 _ rfl
          rw [hv3, unhide HN] at hc3n
          have HV3 := hide hv3
          have HLN2 : Hid (ws.length = P.sent.length) := (unhide HS).len
          clear hv3
          go_wp2_with (
            first
            | (refine wpStoreV (T := 3) (b := b) (i := 5) (v := .int .i64 N) (by rfl) (.tmp 83) (.tmp 81) (by rfl) (by rfl) (by kernel_rfl) (by kernel_rfl) 32 _ (unhide HH) (st3 _ _ _ _ _ _ (unhide HH) (by simp [Ps.R])) ?_
               intro X1 B1 K1
               replace HH := hide B1
               have HK1 := hide K1
               clear B1 K1 hc3n)
            | (refine wpStoreV (T := 4) (b := b) (i := 7) (v := .bool false) (by rfl) (.tmp 86) (.const (.bool false)) (by rfl) (by rfl) (by kernel_rfl) (by rfl) 32 _ (unhide HH) (st4 _ _ _ _ _ _ (unhide HH) (by simp [Ps.R])) ?_
               intro X2 B2 K2
               have HB2 := hide B2
               replace HK1 := hide ((unhide HK1).trans K2)
               clear B2 K2))
          have HBT : Hid (Blk X2 b 32 (P.toldP.R v)) := by have h9 := unhide HB2; rw [← unhide HN, unhide HLN2] at h9; exact h9
          have HR := hide ((rhead_sx (unhide HS) (toldP_ok (unhide HS).ok) rfl (unhide HBT) (unhide HK1)).after (unhide HKV))
          have HDZ := hide ((unhide HD).kept (unhide HK1) (fun k e hm => by have h9 := ((unhide HD).row.lt k e).1; have h8 := unhide HBL; simp at hm; omega) (fun p hp k e hm => by have h9 := (unhide HD).new p hp k e; have h8 := unhide HBL; simp at hm; omega))
          go_ret
          exact ⟨_, _, rfl, unhide HDZ, by unfold Ps.tellL; rw [if_pos ⟨unhide HSL, unhide HOW⟩]; rfl, unhide HR⟩
        | false =>
          rw [ho] at hc7
          have HOW := hide ho
          clear ho
          clear HH hc3
          have HH := hide (unhide HS).head
          obtain ⟨vo3, vc3, hv3, _, _⟩ := (unhide HS).sl
          have hc3n := fits_cell (unhide HH) 3 _ rfl
          rw [hv3, unhide HN] at hc3n
          have HV3 := hide hv3
          have HLN2 : Hid (ws.length = P.sent.length) := (unhide HS).len
          clear hv3
          go_wp2_with (
            first
            | (refine wpStoreV (T := 3) (b := b) (i := 5) (v := .int .i64 N) (by rfl) (.tmp 83) (.tmp 81) (by rfl) (by rfl) (by kernel_rfl) (by kernel_rfl) 32 _ (unhide HH) (st3 _ _ _ _ _ _ (unhide HH) (by simp [Ps.R])) ?_
               intro X1 B1 K1
               replace HH := hide B1
               have HK1 := hide K1
               clear B1 K1 hc3n)
            | (refine wpStoreV (T := 4) (b := b) (i := 7) (v := .bool false) (by rfl) (.tmp 86) (.const (.bool false)) (by rfl) (by rfl) (by kernel_rfl) (by rfl) 32 _ (unhide HH) (st4 _ _ _ _ _ _ (unhide HH) (by simp [Ps.R])) ?_
               intro X2 B2 K2
               have HB2 := hide B2
               replace HK1 := hide ((unhide HK1).trans K2)
               clear B2 K2))
          have HBT : Hid (Blk X2 b 32 (P.toldP.R v)) := by have h9 := unhide HB2; rw [← unhide HN, unhide HLN2] at h9; exact h9
          have HR := hide ((rhead_sx (unhide HS) (toldP_ok (unhide HS).ok) rfl (unhide HBT) (unhide HK1)).after (unhide HKV))
          have HDZ := hide ((unhide HD).kept (unhide HK1) (fun k e hm => by have h9 := ((unhide HD).row.lt k e).1; have h8 := unhide HBL; simp at hm; omega) (fun p hp k e hm => by have h9 := (unhide HD).new p hp k e; have h8 := unhide HBL; simp at hm; omega))
          go_ret
          exact ⟨_, _, rfl, unhide HDZ, by unfold Ps.tellL; rw [if_neg (fun h => by rw [unhide HOW] at h; cases h.2)]; unfold Ps.waitL; rw [show P.sent.length - f = 0 by have := unhide HSL; omega]; rfl, unhide HR⟩
      · have hzI : ¬ ((L.length : Nat) : Int) = 0 := by omega
        have HSL : Hid (q = P.sent.length - f ∧ ¬ P.sent.length ≤ f) := by have h1 := unhide HLN; have h2 := unhide HLL; have h3 := unhide HJN; have h4 := unhide HQ; have h5 := unhide HN; exact ⟨by omega, by omega⟩
        clear hj
        clear HH hc3
        have HH := hide (unhide HS).head
        obtain ⟨vo3, vc3, hv3, _, _⟩ := (unhide HS).sl
        have hc3n := fits_cell (unhide HH) 3 _ rfl
        rw [hv3, unhide HN] at hc3n
        have HV3 := hide hv3
        have HLN2 : Hid (ws.length = P.sent.length) := (unhide HS).len
        clear hv3
        go_wp2_with (
          first
          | (refine wpStoreV (T := 3) (b := b) (i := 5) (v := .int .i64 N) (by rfl) (.tmp 83) (.tmp 81) (by rfl) (by rfl) (by kernel_rfl) (by kernel_rfl) 32 _ (unhide HH) (st3 _ _ _ _ _ _ (unhide HH) (by simp [Ps.R])) ?_
             intro X1 B1 K1
             replace HH := hide B1
             have HK1 := hide K1
             clear B1 K1 hc3n)
          | (refine wpStoreV (T := 4) (b := b) (i := 7) (v := .bool false) (by rfl) (.tmp 86) (.const (.bool false)) (by rfl) (by rfl) (by kernel_rfl) (by rfl) 32 _ (unhide HH) (st4 _ _ _ _ _ _ (unhide HH) (by simp [Ps.R])) ?_
             intro X2 B2 K2
             have HB2 := hide B2
             replace HK1 := hide ((unhide HK1).trans K2)
             clear B2 K2))
        have HBT : Hid (Blk X2 b 32 (P.toldP.R v)) := by have h9 := unhide HB2; rw [← unhide HN, unhide HLN2] at h9; exact h9
        have HR := hide ((rhead_sx (unhide HS) (toldP_ok (unhide HS).ok) rfl (unhide HBT) (unhide HK1)).after (unhide HKV))
        have HDZ := hide ((unhide HD).kept (unhide HK1) (fun k e hm => by have h9 := ((unhide HD).row.lt k e).1; have h8 := unhide HBL; simp at hm; omega) (fun p hp k e hm => by have h9 := (unhide HD).new p hp k e; have h8 := unhide HBL; simp at hm; omega))
        go_ret
        exact ⟨_, _, rfl, unhide HDZ, by unfold Ps.tellL; rw [if_neg (fun h => (unhide HSL).2 h.1), unhide HL, (unhide HSL).1]; rfl, unhide HR⟩

end Go.Proofs.Ythbgnpbkdeofcaa
