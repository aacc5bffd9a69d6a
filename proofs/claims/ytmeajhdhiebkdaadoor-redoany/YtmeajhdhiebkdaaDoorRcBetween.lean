/-
  The walk of between: the one record that can have two sectors.
-/
import Derived.Test.YtmeajhdhiebkdaaDoorRcKit
namespace Go.Proofs.YtmeajhdhiebkdaaDoor.Rc
set_option maxRecDepth 100000
open Go.RowKit

theorem cf40 (vs : Array Value) (w : World) : (callFunc 96 vs).run Tryd.prog w = .ok (.enter 96 vs) w := by kernel_rfl
/-- A sector's half of a body. -/
def halfS (s : List Int) : List Int := (s.drop 14).take 48
theorem halfS_byts {s : List Int} (hs : Byts 64 s) : Byts 48 (halfS s) :=
  ⟨by simp [halfS, hs.len], fun x hx => hs.byte x (List.mem_of_mem_drop (List.mem_of_mem_take hx))⟩
/-- The record between two sectors. -/
def betR (a b : List Int) : Rec := ⟨numL a 1 1 / 16, numL a 2 4, numL a 6 4, numL a 1 1 % 16, numL a 10 4, halfS a ++ halfS b⟩
theorem betR_ok {a b : List Int} (ha : Byts 64 a) (hb : Byts 64 b) : (betR a b).Ok := by
  have h := readR_ok ha (h := 0) (by omega)
  exact ⟨h.nd, h.ep, h.ls, h.pg, h.ps, (halfS_byts ha).app (halfS_byts hb)⟩
theorem read0_bd (s : List Int) : (readR s 0).bd = halfS s ++ zs 48 := by simp [readR, bodyK, halfS, zs]
theorem read1_bd (s : List Int) : (readR s 1).bd = zs 48 ++ halfS s := by simp [readR, bodyK, halfS, zs]

theorem splice_rec (a b : List Int) (ha : Byts 64 a) (hb : Byts 64 b) : splice (recC (readR a 0)) 53 (u8s (halfS b)) = recC (betR a b) := by
  have h1 := (halfS_byts ha).len
  have h2 := (halfS_byts hb).len
  have e : recC (readR a 0) = [.int .i64 (numL a 1 1 / 16), .int .i64 (numL a 2 4), .int .i64 (numL a 6 4), .int .i64 (numL a 1 1 % 16), .int .i64 (numL a 10 4)] ++ u8s (halfS a) ++ u8s (zs 48) := by
    have := read0_bd a
    simp only [recC, this, u8s_app]
    rfl
  have e2 : recC (betR a b) = [.int .i64 (numL a 1 1 / 16), .int .i64 (numL a 2 4), .int .i64 (numL a 6 4), .int .i64 (numL a 1 1 % 16), .int .i64 (numL a 10 4)] ++ u8s (halfS a) ++ u8s (halfS b) := by
    simp only [recC, betR, u8s_app]
    rfl
  have hl : ([Value.int .i64 (numL a 1 1 / 16), .int .i64 (numL a 2 4), .int .i64 (numL a 6 4), .int .i64 (numL a 1 1 % 16), .int .i64 (numL a 10 4)] ++ u8s (halfS a)).length = 53 := by simp [u8s_len, h1]
  rw [e, e2]
  unfold splice
  rw [List.take_append_of_le_length (by rw [hl]; omega), List.take_of_length_le (by rw [hl]; omega), List.drop_eq_nil_of_le (by rw [List.length_append, hl]; simp [u8s_len, zs, h2]), List.append_nil]

theorem src_half {W : World} {q : Nat} {b : List Int} (h : Blk W q 45 (recC (readR b 1))) : ∀ j v, (u8s (halfS b))[j]? = some v → W.cell? ((⟨q, 53, none⟩ : Addr).add j) = some v := by
  intro j v hj
  rw [Addr.add_mid, h.cell]
  have e : recC (readR b 1) = ([.int .i64 (numL b 1 1 / 16), .int .i64 (numL b 2 4), .int .i64 (numL b 6 4), .int .i64 (numL b 1 1 % 16), .int .i64 (numL b 10 4)] ++ u8s (zs 48)) ++ u8s (halfS b) := by
    have := read1_bd b
    simp only [recC, this, u8s_app]
    rfl
  rw [e, List.getElem?_append_right (by simp [u8s_len, zs])]
  simpa [u8s_len, zs] using hj

theorem res38 (w : World) (z : Nat) (vs : List Value) (tmps : Array Value) (h4 : tmps[4]?.getD undef = P0 z) (hl : vs.length = 101) (hb : Blk w z 45 vs) : (results Tryd.f95 tmps).run Tryd.prog w = .ok (aggV vs) w := by
  have := loadV row25 hl hb
  simp [results, Tryd.results95, h4, this, asAddr]
theorem zrecl : (recC zrec).length = 101 := recC_len (zs_byts 96).len

set_option maxHeartbeats 1000000 in
set_option maxRecDepth 100000 in
theorem between38 (s t : List Int) (hs : Byts 64 s) (ht : Byts 64 t) (w : World) : Calls Tryd.prog 95 #[aggV (u8s s), aggV (u8s t)] w fun e w' => e = .returned (aggV (recC (betR s t))) ∧ Kept [] w w' := by
  have hsu : (u8s s).length = 64 := by rw [u8s_len, hs.len]
  have htu : (u8s t).length = 64 := by rw [u8s_len, ht.len]
  have l0 := recC_len (readR_ok hs (h := 0) (by omega)).bd.len
  have l1 := recC_len (readR_ok ht (h := 1) (by omega)).bd.len
  have lb := recC_len (betR_ok hs ht).bd.len
  have lh : (u8s (halfS t)).length = 48 := by rw [u8s_len, (halfS_byts ht).len]
  go_enter Tryd.func95, Tryd.ntmps95
  go_wp2_with (
    first
    | (refine wpBoxV rfl (.tmp 0) rfl (u8s s) rfl ?_
       intro W0 b0 e0 B0 K0
       have A0 := hide B0
       have KA := hide K0
       clear e0 B0 K0)
    | (refine wpBoxV rfl (.tmp 1) rfl (u8s t) rfl ?_
       intro W1 b1 e1 B1 K1
       have A1 := hide B1
       have C0 := hide ((unhide A0).kept K1 (by simp))
       have KB := hide ((unhide KA).trans K1)
       clear e1 B1 K1 A0 KA)
    | (refine wpAllocW (recC zrec) zero25 4 rfl rfl rfl ?_
       intro W2 zb ez BZ1 K2
       have d0 := hide ((unhide C0).kept K2 (by simp))
       have d1 := hide ((unhide A1).kept K2 (by simp))
       have dz := hide BZ1
       have nz : Hid (w.heap.size ≤ zb) := by have := (unhide KB).size; show _ ≤ _; omega
       have dk := hide ((unhide KB).trans K2)
       clear ez BZ1 K2 A1 C0 KB))
  refine wp_region_prefix mixed 6 2 rfl (by kernel_rfl) (tab [.is (aggV (u8s s)), .is (aggV (recC (readR s 0))), .is (aggV (u8s t)), .is (aggV (recC (readR t 1))), .new 45 (recC zrec) W2.heap.size, .new 45 (recC zrec) W2.heap.size]) (apartE [4, 5]) (tab_kept _) (by kernel_rfl) ?_ ?_
  · intro j o hj ho a w2 hout hin hk
    match j, ho with
    | 0, ho =>
      obtain rfl := Option.some.inj ho
      exact wp_loadA row29 (.tmp 2) rfl b0 0 ((hout 2 (by kernel_rfl)).trans rfl) (u8s s) hsu ((unhide d0).kept hk (by simp)).range ⟨_, rfl, rfl, Kept.refl _ _, fun i u _ _ _ => apart_no (by decide) i u _⟩
    | 1, ho =>
      obtain rfl := Option.some.inj ho
      have e0 : a.eval (.tmp 7) = aggV (u8s s) := hin 0 7 (by kernel_rfl) (by kernel_rfl)
      refine wp_callF 96 _ _ rfl #[aggV (u8s s), .int .i64 (0 : Nat)] (by simp [e0]; rfl) (cf40 _ _) ((read40 s hs 0 (by omega) w2).mono ?_)
      rintro e w3 ⟨rfl, hk3⟩
      exact ⟨_, rfl, _, rfl, rfl, hk3, fun i u _ _ _ => apart_no (by decide) i u _⟩
    | 2, ho =>
      obtain rfl := Option.some.inj ho
      exact wp_loadA row29 (.tmp 3) rfl b1 0 ((hout 3 (by kernel_rfl)).trans rfl) (u8s t) htu ((unhide d1).kept hk (by simp)).range ⟨_, rfl, rfl, Kept.refl _ _, fun i u _ _ _ => apart_no (by decide) i u _⟩
    | 3, ho =>
      obtain rfl := Option.some.inj ho
      have e0 : a.eval (.tmp 9) = aggV (u8s t) := hin 2 9 (by kernel_rfl) (by kernel_rfl)
      refine wp_callF 96 _ _ rfl #[aggV (u8s t), .int .i64 (1 : Nat)] (by simp [e0]; rfl) (cf40 _ _) ((read40 t ht 1 (by omega) w2).mono ?_)
      rintro e w3 ⟨rfl, hk3⟩
      exact ⟨_, rfl, _, rfl, rfl, hk3, fun i u _ _ _ => apart_no (by decide) i u _⟩
    | 4, ho =>
      obtain rfl := Option.some.inj ho
      exact wp_allocA (recC zrec) zero25 rfl ⟨_, rfl, ⟨_, rfl, hk.size, Blk.new' rfl⟩, (Kept.refl _ _).alloc _, fun i u _ _ h => apart_new (by simp) i 4 u h⟩
    | 5, ho =>
      obtain rfl := Option.some.inj ho
      exact wp_allocA (recC zrec) zero25 rfl ⟨_, rfl, ⟨_, rfl, hk.size, Blk.new' rfl⟩, (Kept.refl _ _).alloc _, fun i u _ _ h => apart_new (by simp) i 5 u h⟩
  · intro vs w3 hlen hF hE hk
    obtain ⟨x0, x1, x2, x3, x4, x5, rfl⟩ := vs6 hlen
    obtain rfl : x0 = aggV (u8s s) := hF 0 _ rfl
    obtain rfl : x1 = aggV (recC (readR s 0)) := hF 1 _ rfl
    obtain rfl : x2 = aggV (u8s t) := hF 2 _ rfl
    obtain rfl : x3 = aggV (recC (readR t 1)) := hF 3 _ rfl
    obtain ⟨q4, rfl, hq4, hb4⟩ : ∃ q, x4 = P0 q ∧ W2.heap.size ≤ q ∧ Blk w3 q 45 (recC zrec) := hF 4 _ rfl
    obtain ⟨q5, rfl, hq5, hb5⟩ : ∃ q, x5 = P0 q ∧ W2.heap.size ≤ q ∧ Blk w3 q 45 (recC zrec) := hF 5 _ rfl
    have hne : q4 ≠ q5 := by
      intro e
      subst e
      rcases hE 4 5 _ _ (by decide) rfl rfl with h | h
      · exact h (by decide) (by decide) rfl
      · exact h (by decide) (by decide) rfl
    simp only [List.take_succ_cons, List.take_zero, putAll, Act.put, List.setIfInBounds_toArray, List.set_cons_succ, List.set_cons_zero]
    refine wpAny_all (rs := [6]) (by kernel_rfl) (by simp) ?_
    intro i hi
    obtain rfl : i = 6 := by simpa using hi
    refine wpOp_of rfl rfl (wp_storeN row25 (.tmp 5) (.tmp 8) rfl rfl q4 0 (recC (readR s 0)) rfl rfl l0 (recC_one _) (hb4.there (by rw [zrecl]; omega)) ?_)
    refine wpAny_all (rs := [7]) (by kernel_rfl) (by simp) ?_
    intro i hi
    obtain rfl : i = 7 := by simpa using hi
    refine wpOp_of rfl rfl (wp_storeN row25 (.tmp 6) (.tmp 10) rfl rfl q5 0 (recC (readR t 1)) rfl rfl l1 (recC_one _) ((hb5.other (fun e => hne e.symm)).there (by rw [zrecl]; omega)) ?_)
    refine wpAny_done (by kernel_rfl) ?_ _
    have lz := (unhide dz).lt
    have f2 : Hid (Blk ((w3.setCells q4 0 (recC (readR s 0))).setCells q5 0 (recC (readR t 1))) zb 45 (recC zrec)) := (((unhide dz).kept hk (by simp)).other (by omega)).other (by omega)
    have f4 : Hid (Blk ((w3.setCells q4 0 (recC (readR s 0))).setCells q5 0 (recC (readR t 1))) q4 45 (recC (readR s 0))) := (hb4.put (by rw [zrecl, l0])).other hne
    have f5 : Hid (Blk ((w3.setCells q4 0 (recC (readR s 0))).setCells q5 0 (recC (readR t 1))) q5 45 (recC (readR t 1))) := (hb5.other (fun e => hne e.symm)).put (by rw [zrecl, l1])
    have fk : Hid (Kept [] w ((w3.setCells q4 0 (recC (readR s 0))).setCells q5 0 (recC (readR t 1)))) := (((unhide dk).trans hk).setCells _ _ (by have := (unhide dk).size; omega)).setCells _ _ (by have := (unhide dk).size; omega)
    have hw2 := (unhide dk).size
    clear hF hE hk hb4 hb5 d0 d1 dz dk
    generalize ((w3.setCells q4 0 (recC (readR s 0))).setCells q5 0 (recC (readR t 1))) = W4 at *
    clear hlen
    have hks := (unhide fk).size
    go_wp2_with fail
    go_region_law (refine step_copyK rfl (.tmp 12) (.tmp 14) rfl ⟨q5, 53, none⟩ 48 48 48 48 q4 53 rfl rfl (recC (readR s 0)) 45 (unhide f4) (u8s (halfS t)) lh (src_half (unhide f5)) (by rw [l0, lh]; omega) (u8s_one _) ?_; intro w5 hg5 hk5)
    have nz2 := unhide nz
    have g2 : Hid (Blk w5 zb 45 (recC zrec)) := (unhide f2).drew.kept (unhide hk5) (by simp; omega)
    have g3 : Hid (Blk w5 q4 45 (recC (betR s t))) := by
      have := unhide hg5
      rw [splice_rec _ _ hs ht] at this
      exact this
    have gk : Hid (Kept [] w w5) := (unhide fk).drew.fresh (unhide hk5) (by intro i hi; simp at hi; omega)
    clear hg5 hk5 f2 f4 f5 fk
    go_wp2_with (
      first
      | (refine wpLoadA row25 rfl (.tmp 5) rfl q4 0 rfl (recC (betR s t)) lb (unhide g3).range ?_)
      | (refine wpStoreA row25 rfl (.tmp 4) (.tmp 16) rfl zb 0 (recC (betR s t)) rfl rfl lb (recC_one _) ((unhide g2).there (by rw [zrecl]; omega)) ?_))
    have g4 := (unhide g2).put (vs := recC (betR s t)) (by rw [zrecl, lb])
    exact bodyPost_ret (res38 _ _ _ _ rfl lb g4) rfl ⟨rfl, (unhide gk).setCells _ _ (by omega)⟩

end Go.Proofs.YtmeajhdhiebkdaaDoor.Rc
