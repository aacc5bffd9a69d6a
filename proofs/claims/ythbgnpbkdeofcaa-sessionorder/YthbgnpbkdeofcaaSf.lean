/-
  Datagrams; the closure that makes one.
-/
import Derived.Test.YthbgnpbkdeofcaaSe
namespace Go.Proofs.Ythbgnpbkdeofcaa
set_option maxRecDepth 100000
open Go.RowKit

structure Dg where
  fr : Int
  to : Int
  vw : Int
  seq : Int
  ack : Int
  bs : List Int
def Dg.C (d : Dg) (v : Value) : List Value := [.int .i64 d.fr, .int .i64 d.to, .int .i64 d.vw, .int .i64 d.seq, .int .i64 d.ack, v]
def zD : List Value := [.int .i64 0, .int .i64 0, .int .i64 0, .int .i64 0, .int .i64 0, .slice none 0 0]
def Ps.dg (P : Ps) (seq : Int) (bs : List Int) : Dg := ⟨P.me, P.oth, P.view, seq, P.got, bs⟩
theorem row35 : Row 35 6 := ⟨_, Try.underlying35, rfl, by kernel_rfl⟩
theorem alloc35 (w : World) : (Instr.alloc 35 true (.tuple #[])).run Try.prog w = .ok (P0 w.heap.size) (w.alloc (.cells zD.toArray 35)) := by kernel_rfl
theorem res43 (w : World) (z : Nat) (vs : List Value) (tmps : Array Value) (hl : vs.length = 6) (h4 : tmps[5]?.getD undef = P0 z) (hb : Blk w z 35 vs) : (results Try.f43 tmps).run Try.prog w = .ok (aggV vs) w := by
  have := loadV row35 hl hb
  simp [results, Try.results43, h4, this, asAddr]
theorem DgC_one {d : Dg} {v : Value} (h : v.oneCell' = true) : ∀ u ∈ d.C v, u.oneCell' = true := by
  intro u hu
  simp [Dg.C] at hu
  rcases hu with rfl | rfl | rfl | rfl | rfl | rfl
  · rfl
  · rfl
  · rfl
  · rfl
  · rfl
  · exact h
theorem buildD (w : World) (a b c d e : Int) (ao : Option Addr) (m k : Nat) : (Instr.build 35 #[(0, .int .i64 a), (1, .int .i64 b), (2, .int .i64 c), (3, .int .i64 d), (4, .int .i64 e), (5, .slice ao m k)]).run Try.prog w = .ok (aggV [.int .i64 a, .int .i64 b, .int .i64 c, .int .i64 d, .int .i64 e, .slice ao m k]) w := by kernel_rfl
section
variable {o : Oper} {a : Act} {w : World} {K : Act → World → Prop} {Q : Exit → Act → World → Prop}
theorem o_bldD (x0 x1 x2 x3 x4 x5 : Operand) (ho : o.op = .build 35 #[(0, x0), (1, x1), (2, x2), (3, x3), (4, x4), (5, x5)]) (d : Dg) (u : Value) (hu : ∃ ao m c, u = .slice ao m c) (h0 : a.eval x0 = .int .i64 d.fr) (h1 : a.eval x1 = .int .i64 d.to) (h2 : a.eval x2 = .int .i64 d.vw) (h3 : a.eval x3 = .int .i64 d.seq) (h4 : a.eval x4 = .int .i64 d.ack) (h5 : a.eval x5 = u) (h : K (a.put o.dst (aggV (d.C u))) w) : o.wp Try.prog a w K Q := by
  obtain ⟨ao, m, c, rfl⟩ := hu
  unfold Oper.wp execOp
  simp only [ho, List.map_toArray, List.map_cons, List.map_nil, h0, h1, h2, h3, h4, h5, Sem.run_bind, buildD w _ _ _ _ _ _ _ _, Result.andThen_ok]
  exact h
theorem o_st35 (x y : Operand) (ho : o.op = .store 35 x y) (_ : o.dst = none) (z : Nat) (zv vs : List Value) (hx : a.eval x = P0 z) (hy : a.eval y = aggV vs) (hl : vs.length = 6) (h1 : ∀ v ∈ vs, v.oneCell' = true) (hB : Blk w z 35 zv) (hz : zv.length = 6)
    (h : ∀ W, Blk W z 35 vs → Kept [z] w W → K (a.put o.dst undef) W) : o.wp Try.prog a w K Q :=
  wp_storeA row35 x y ho z 0 vs hx hy hl h1 (hB.there (by omega)) (h _ (hB.put (by omega)) ((Kept.refl _ _).setCells _ _ (by simp)))
end
/-- What the region of the closure keeps. -/
@[reducible] def S43 (V : World) (z : Nat) (D : Dg) (d : Nat → Bool) (vs : Nat → Value) (W : World) : Prop :=
  (d 24 = false → Kept [] V W ∧ (d 22 = true → Bod W (vs 22) D.bs ∧ ∀ k, (vs 22).ownBlock = some k → V.heap.size ≤ k) ∧ (d 23 = true → vs 23 = aggV (D.C (vs 22)))) ∧
  (d 24 = true → ∃ u, Blk W z 35 (D.C u) ∧ Kept [z] V W ∧ Bod W u D.bs ∧ ∀ k, u.ownBlock = some k → V.heap.size ≤ k)
theorem S43.loc {V : World} {z : Nat} {D : Dg} : ∀ d d' vs vs' W, (∀ i ∈ [22, 23, 24], d i = d' i ∧ vs i = vs' i) → S43 V z D d vs W → S43 V z D d' vs' W := by
  intro d d' vs vs' W H h
  have e0 := H 22 (by simp)
  have e1 := H 23 (by simp)
  have e2 := H 24 (by simp)
  unfold S43 at h ⊢
  rw [← e0.1, ← e0.2, ← e1.1, ← e1.2, ← e2.1]
  exact h
set_option maxHeartbeats 2000000 in
theorem make43 (cb b : Nat) (v : Value) (ws : List Value) (P : Ps) (seq : Int) (ao : Option Addr) (m c : Nat) (bs : List Int) (w : World) (h : Sx w b v ws P) (hc : Blk w cb 23 [P0 b]) (hV : Vals w ao m c (u8s bs)) (hnil : ao = none → m = 0 ∧ c = 0) (hb : ∀ x ∈ bs, 0 ≤ x ∧ x < 256) (hm : m ≤ 256) : Calls Try.prog 43 #[.int .i64 seq, .slice ao m c, P0 cb] w fun e w' => ∃ u, e = .returned (aggV ((P.dg seq bs).C u)) ∧ Bod w' u bs ∧ (∀ k, u.ownBlock = some k → w.heap.size ≤ k) ∧ Kept [] w w' := by
  have HS := hide h
  have HX := hide hV
  have HN := hide hnil
  have HBY := hide hb
  have HM := hide hm
  have HC := hide hc
  clear h hV hnil hb hm hc
  go_enter Try.func43, Try.ntmps43
  go_wp2_with (
    first
    | (refine wpAllocW zD alloc35 5 (by rfl) (by rfl) (by rfl) ?_
       intro w1 z ez BZ KZ
       have HZ := hide BZ
       have HK := hide KZ
       have HE : Hid (w.heap.size ≤ z) := by rw [ez]; exact (Nat.le_refl _ : w.heap.size ≤ w.heap.size)
       clear ez BZ KZ))
  replace HS := hide ((unhide HS).kept0 (unhide HK))
  have HH := hide (unhide HS).head
  have HV := hide ((unhide HX).kept (unhide HK) (fun _ _ _ => by simp))
  replace HC := hide ((unhide HC).kept (unhide HK) (by simp))
  clear HX
  refine wp_region_any mixed (wpAny_gx 25 rfl (by kernel_rfl) [some (P0 b), some (P0 b), some (.pointer (some ⟨b, 0, none⟩)), some (.pointer (some ⟨b, 0, none⟩)), some (.int .i64 P.me), some (P0 b), some (P0 b), some (.pointer (some ⟨b, 0, none⟩)), some (.pointer (some ⟨b, 1, none⟩)), some (.int .i64 P.oth), some (P0 b), some (P0 b), some (.pointer (some ⟨b, 0, none⟩)), some (.pointer (some ⟨b, 2, none⟩)), some (.int .i64 P.view), some (.int .i64 seq), some (P0 b), some (P0 b), some (.pointer (some ⟨b, 0, none⟩)), some (.pointer (some ⟨b, 5, none⟩)), some (.int .i64 P.got), some (.slice ao m c), none, none, none] rfl (by kernel_rfl) (fun l vs W => (S43 w1 z (P.dg seq bs)) (fun i => l.getD i false) vs W) (⟨fun _ => ⟨⟨rfl, rfl, rfl, Nat.le_refl _, fun _ _ _ => rfl⟩, (fun h => by cases h), (fun h => by cases h)⟩, fun h => by cases h⟩) ?_ ?_)
  · intro ix o' hi ho a' w2 l vs hls hlf hJ hout hin hdep hnot
    match ix, ho with
    | 0, ho =>
      obtain rfl := Option.some.inj ho
      have e0 := hout 2 (by kernel_rfl)
      replace e0 : a'.eval (.tmp 2) = _ := e0.trans rfl
      exact o_load23 (.tmp 2) rfl _ _ e0 (fits_cell ((unhide HC).kept (hJ.1 (hnot 24 (by kernel_rfl))).1 (by simp)) 0 _ rfl) ⟨_, rfl, told_of rfl, keepG (St := (S43 w1 z (P.dg seq bs))) [22, 23, 24] S43.loc (by omega) (by decide) hJ⟩
    | 1, ho =>
      obtain rfl := Option.some.inj ho
      have e0 : a'.eval (.tmp 6) = P0 b := by have h9 := hin 0 6 (by kernel_rfl) (by kernel_rfl); exact h9.1.trans (told_is _ h9.2 rfl)
      exact o_nil (.tmp 6) rfl _ e0 ⟨_, rfl, told_of rfl, keepG (St := (S43 w1 z (P.dg seq bs))) [22, 23, 24] S43.loc (by omega) (by decide) hJ⟩
    | 2, ho =>
      obtain rfl := Option.some.inj ho
      have e0 : a'.eval (.tmp 7) = P0 b := by have h9 := hin 1 7 (by kernel_rfl) (by kernel_rfl); exact h9.1.trans (told_is _ h9.2 rfl)
      exact o_fld68_0 (.tmp 7) rfl _ e0 ⟨_, rfl, told_of rfl, keepG (St := (S43 w1 z (P.dg seq bs))) [22, 23, 24] S43.loc (by omega) (by decide) hJ⟩
    | 3, ho =>
      obtain rfl := Option.some.inj ho
      have e0 : a'.eval (.tmp 8) = .pointer (some ⟨b, 0, none⟩) := by have h9 := hin 2 8 (by kernel_rfl) (by kernel_rfl); exact h9.1.trans (told_is _ h9.2 rfl)
      exact o_fld66_0 (.tmp 8) rfl _ e0 ⟨_, rfl, told_of rfl, keepG (St := (S43 w1 z (P.dg seq bs))) [22, 23, 24] S43.loc (by omega) (by decide) hJ⟩
    | 4, ho =>
      obtain rfl := Option.some.inj ho
      have e0 : a'.eval (.tmp 9) = .pointer (some ⟨b, 0, none⟩) := by have h9 := hin 3 9 (by kernel_rfl) (by kernel_rfl); exact h9.1.trans (told_is _ h9.2 rfl)
      exact o_load3 (.tmp 9) rfl _ _ e0 (fits_cell ((unhide HH).kept (hJ.1 (hnot 24 (by kernel_rfl))).1 (by simp)) 0 _ rfl) ⟨_, rfl, told_of rfl, keepG (St := (S43 w1 z (P.dg seq bs))) [22, 23, 24] S43.loc (by omega) (by decide) hJ⟩
    | 5, ho =>
      obtain rfl := Option.some.inj ho
      have e0 := hout 2 (by kernel_rfl)
      replace e0 : a'.eval (.tmp 2) = _ := e0.trans rfl
      exact o_load23 (.tmp 2) rfl _ _ e0 (fits_cell ((unhide HC).kept (hJ.1 (hnot 24 (by kernel_rfl))).1 (by simp)) 0 _ rfl) ⟨_, rfl, told_of rfl, keepG (St := (S43 w1 z (P.dg seq bs))) [22, 23, 24] S43.loc (by omega) (by decide) hJ⟩
    | 6, ho =>
      obtain rfl := Option.some.inj ho
      have e0 : a'.eval (.tmp 11) = P0 b := by have h9 := hin 5 11 (by kernel_rfl) (by kernel_rfl); exact h9.1.trans (told_is _ h9.2 rfl)
      exact o_nil (.tmp 11) rfl _ e0 ⟨_, rfl, told_of rfl, keepG (St := (S43 w1 z (P.dg seq bs))) [22, 23, 24] S43.loc (by omega) (by decide) hJ⟩
    | 7, ho =>
      obtain rfl := Option.some.inj ho
      have e0 : a'.eval (.tmp 12) = P0 b := by have h9 := hin 6 12 (by kernel_rfl) (by kernel_rfl); exact h9.1.trans (told_is _ h9.2 rfl)
      exact o_fld68_0 (.tmp 12) rfl _ e0 ⟨_, rfl, told_of rfl, keepG (St := (S43 w1 z (P.dg seq bs))) [22, 23, 24] S43.loc (by omega) (by decide) hJ⟩
    | 8, ho =>
      obtain rfl := Option.some.inj ho
      have e0 : a'.eval (.tmp 13) = .pointer (some ⟨b, 0, none⟩) := by have h9 := hin 7 13 (by kernel_rfl) (by kernel_rfl); exact h9.1.trans (told_is _ h9.2 rfl)
      exact o_fld66_1 (.tmp 13) rfl _ e0 ⟨_, rfl, told_of rfl, keepG (St := (S43 w1 z (P.dg seq bs))) [22, 23, 24] S43.loc (by omega) (by decide) hJ⟩
    | 9, ho =>
      obtain rfl := Option.some.inj ho
      have e0 : a'.eval (.tmp 14) = .pointer (some ⟨b, 1, none⟩) := by have h9 := hin 8 14 (by kernel_rfl) (by kernel_rfl); exact h9.1.trans (told_is _ h9.2 rfl)
      exact o_load3 (.tmp 14) rfl _ _ e0 (fits_cell ((unhide HH).kept (hJ.1 (hnot 24 (by kernel_rfl))).1 (by simp)) 1 _ rfl) ⟨_, rfl, told_of rfl, keepG (St := (S43 w1 z (P.dg seq bs))) [22, 23, 24] S43.loc (by omega) (by decide) hJ⟩
    | 10, ho =>
      obtain rfl := Option.some.inj ho
      have e0 := hout 2 (by kernel_rfl)
      replace e0 : a'.eval (.tmp 2) = _ := e0.trans rfl
      exact o_load23 (.tmp 2) rfl _ _ e0 (fits_cell ((unhide HC).kept (hJ.1 (hnot 24 (by kernel_rfl))).1 (by simp)) 0 _ rfl) ⟨_, rfl, told_of rfl, keepG (St := (S43 w1 z (P.dg seq bs))) [22, 23, 24] S43.loc (by omega) (by decide) hJ⟩
    | 11, ho =>
      obtain rfl := Option.some.inj ho
      have e0 : a'.eval (.tmp 16) = P0 b := by have h9 := hin 10 16 (by kernel_rfl) (by kernel_rfl); exact h9.1.trans (told_is _ h9.2 rfl)
      exact o_nil (.tmp 16) rfl _ e0 ⟨_, rfl, told_of rfl, keepG (St := (S43 w1 z (P.dg seq bs))) [22, 23, 24] S43.loc (by omega) (by decide) hJ⟩
    | 12, ho =>
      obtain rfl := Option.some.inj ho
      have e0 : a'.eval (.tmp 17) = P0 b := by have h9 := hin 11 17 (by kernel_rfl) (by kernel_rfl); exact h9.1.trans (told_is _ h9.2 rfl)
      exact o_fld68_0 (.tmp 17) rfl _ e0 ⟨_, rfl, told_of rfl, keepG (St := (S43 w1 z (P.dg seq bs))) [22, 23, 24] S43.loc (by omega) (by decide) hJ⟩
    | 13, ho =>
      obtain rfl := Option.some.inj ho
      have e0 : a'.eval (.tmp 18) = .pointer (some ⟨b, 0, none⟩) := by have h9 := hin 12 18 (by kernel_rfl) (by kernel_rfl); exact h9.1.trans (told_is _ h9.2 rfl)
      exact o_fld66_2 (.tmp 18) rfl _ e0 ⟨_, rfl, told_of rfl, keepG (St := (S43 w1 z (P.dg seq bs))) [22, 23, 24] S43.loc (by omega) (by decide) hJ⟩
    | 14, ho =>
      obtain rfl := Option.some.inj ho
      have e0 : a'.eval (.tmp 19) = .pointer (some ⟨b, 2, none⟩) := by have h9 := hin 13 19 (by kernel_rfl) (by kernel_rfl); exact h9.1.trans (told_is _ h9.2 rfl)
      exact o_load2 (.tmp 19) rfl _ _ e0 (fits_cell ((unhide HH).kept (hJ.1 (hnot 24 (by kernel_rfl))).1 (by simp)) 2 _ rfl) ⟨_, rfl, told_of rfl, keepG (St := (S43 w1 z (P.dg seq bs))) [22, 23, 24] S43.loc (by omega) (by decide) hJ⟩
    | 15, ho =>
      obtain rfl := Option.some.inj ho
      have e0 := hout 0 (by kernel_rfl)
      replace e0 : a'.eval (.tmp 0) = _ := e0.trans rfl
      exact wp_move (.tmp 0) rfl _ e0 ⟨_, rfl, told_of rfl, keepG (St := (S43 w1 z (P.dg seq bs))) [22, 23, 24] S43.loc (by omega) (by decide) hJ⟩
    | 16, ho =>
      obtain rfl := Option.some.inj ho
      have e0 := hout 2 (by kernel_rfl)
      replace e0 : a'.eval (.tmp 2) = _ := e0.trans rfl
      exact o_load23 (.tmp 2) rfl _ _ e0 (fits_cell ((unhide HC).kept (hJ.1 (hnot 24 (by kernel_rfl))).1 (by simp)) 0 _ rfl) ⟨_, rfl, told_of rfl, keepG (St := (S43 w1 z (P.dg seq bs))) [22, 23, 24] S43.loc (by omega) (by decide) hJ⟩
    | 17, ho =>
      obtain rfl := Option.some.inj ho
      have e0 : a'.eval (.tmp 22) = P0 b := by have h9 := hin 16 22 (by kernel_rfl) (by kernel_rfl); exact h9.1.trans (told_is _ h9.2 rfl)
      exact o_nil (.tmp 22) rfl _ e0 ⟨_, rfl, told_of rfl, keepG (St := (S43 w1 z (P.dg seq bs))) [22, 23, 24] S43.loc (by omega) (by decide) hJ⟩
    | 18, ho =>
      obtain rfl := Option.some.inj ho
      have e0 : a'.eval (.tmp 23) = P0 b := by have h9 := hin 17 23 (by kernel_rfl) (by kernel_rfl); exact h9.1.trans (told_is _ h9.2 rfl)
      exact o_fld68_0 (.tmp 23) rfl _ e0 ⟨_, rfl, told_of rfl, keepG (St := (S43 w1 z (P.dg seq bs))) [22, 23, 24] S43.loc (by omega) (by decide) hJ⟩
    | 19, ho =>
      obtain rfl := Option.some.inj ho
      have e0 : a'.eval (.tmp 24) = .pointer (some ⟨b, 0, none⟩) := by have h9 := hin 18 24 (by kernel_rfl) (by kernel_rfl); exact h9.1.trans (told_is _ h9.2 rfl)
      exact o_fld66_5 (.tmp 24) rfl _ e0 ⟨_, rfl, told_of rfl, keepG (St := (S43 w1 z (P.dg seq bs))) [22, 23, 24] S43.loc (by omega) (by decide) hJ⟩
    | 20, ho =>
      obtain rfl := Option.some.inj ho
      have e0 : a'.eval (.tmp 25) = .pointer (some ⟨b, 5, none⟩) := by have h9 := hin 19 25 (by kernel_rfl) (by kernel_rfl); exact h9.1.trans (told_is _ h9.2 rfl)
      exact o_load2 (.tmp 25) rfl _ _ e0 (fits_cell ((unhide HH).kept (hJ.1 (hnot 24 (by kernel_rfl))).1 (by simp)) 5 _ rfl) ⟨_, rfl, told_of rfl, keepG (St := (S43 w1 z (P.dg seq bs))) [22, 23, 24] S43.loc (by omega) (by decide) hJ⟩
    | 21, ho =>
      obtain rfl := Option.some.inj ho
      have e0 := hout 1 (by kernel_rfl)
      replace e0 : a'.eval (.tmp 1) = _ := e0.trans rfl
      exact wp_move (.tmp 1) rfl _ e0 ⟨_, rfl, told_of rfl, keepG (St := (S43 w1 z (P.dg seq bs))) [22, 23, 24] S43.loc (by omega) (by decide) hJ⟩
    | 22, ho =>
      obtain rfl := Option.some.inj ho
      have e0 : a'.eval (.tmp 27) = .slice ao m c := by have h9 := hin 21 27 (by kernel_rfl) (by kernel_rfl); exact h9.1.trans (told_is _ h9.2 rfl)
      have hk0 := (hJ.1 (hnot 24 (by kernel_rfl))).1
      refine wp_callF 34 _ _ rfl #[.slice ao m c] (by simp [e0]) (cf34 _ _) ((clone34 ao m c bs _ ((unhide HV).kept hk0 (fun _ _ _ => by simp)) (unhide HN) (unhide HBY) (by have := unhide HM; omega)).mono ?_)
      rintro e w3 ⟨u, rfl, hB3, hf3, hk3⟩
      refine ⟨_, rfl, _, rfl, told_no rfl, nextG (St := (S43 w1 z (P.dg seq bs))) (by omega) ⟨fun h24 => ⟨hk0.trans hk3, fun _ => ⟨hB3, fun k hk => by have := hf3 k hk; have := hk0.size; omega⟩, fun h23 => ?_⟩, fun h24 => ?_⟩⟩
      · have h9 : l.getD 23 false = true := h23; rw [hnot 23 (by kernel_rfl)] at h9; cases h9
      · have h9 : l.getD 24 false = true := h24; rw [hnot 24 (by kernel_rfl)] at h9; cases h9
    | 23, ho =>
      obtain rfl := Option.some.inj ho
      have e0 : a'.eval (.tmp 10) = .int .i64 P.me := by have h9 := hin 4 10 (by kernel_rfl) (by kernel_rfl); exact h9.1.trans (told_is _ h9.2 rfl)
      have e1 : a'.eval (.tmp 15) = .int .i64 P.oth := by have h9 := hin 9 15 (by kernel_rfl) (by kernel_rfl); exact h9.1.trans (told_is _ h9.2 rfl)
      have e2 : a'.eval (.tmp 20) = .int .i64 P.view := by have h9 := hin 14 20 (by kernel_rfl) (by kernel_rfl); exact h9.1.trans (told_is _ h9.2 rfl)
      have e3 : a'.eval (.tmp 21) = .int .i64 seq := by have h9 := hin 15 21 (by kernel_rfl) (by kernel_rfl); exact h9.1.trans (told_is _ h9.2 rfl)
      have e4 : a'.eval (.tmp 26) = .int .i64 P.got := by have h9 := hin 20 26 (by kernel_rfl) (by kernel_rfl); exact h9.1.trans (told_is _ h9.2 rfl)
      have e5 : a'.eval (.tmp 28) = vs 22 := (hin 22 28 (by kernel_rfl) (by kernel_rfl)).1
      have hk0 := (hJ.1 (hnot 24 (by kernel_rfl))).1
      obtain ⟨hB6, hf6⟩ := (hJ.1 (hnot 24 (by kernel_rfl))).2.1 (hdep 22 (by kernel_rfl))
      obtain ⟨uo, uc, hu, _, _⟩ := hB6.sl
      refine o_bldD (.tmp 10) (.tmp 15) (.tmp 20) (.tmp 21) (.tmp 26) (.tmp 28) rfl (P.dg seq bs) (vs 22) ⟨uo, _, uc, hu⟩ e0 e1 e2 e3 e4 e5 ?_
      refine ⟨_, rfl, told_no rfl, nextG (St := (S43 w1 z (P.dg seq bs))) (by omega) ⟨fun h24 => ⟨hk0, fun _ => ⟨hB6, hf6⟩, fun _ => rfl⟩, fun h24 => ?_⟩⟩
      have h9 : l.getD 24 false = true := h24; rw [hnot 24 (by kernel_rfl)] at h9; cases h9
    | 24, ho =>
      obtain rfl := Option.some.inj ho
      have e0 := hout 5 (by kernel_rfl)
      replace e0 : a'.eval (.tmp 5) = _ := e0.trans rfl
      have e1 : a'.eval (.tmp 29) = vs 23 := (hin 23 29 (by kernel_rfl) (by kernel_rfl)).1
      have hk0 := (hJ.1 hlf).1
      obtain ⟨hB6, hf6⟩ := (hJ.1 hlf).2.1 (hdep 22 (by kernel_rfl))
      have h23 := (hJ.1 hlf).2.2 (hdep 23 (by kernel_rfl))
      refine o_st35 (.tmp 5) (.tmp 29) rfl rfl z zD ((P.dg seq bs).C (vs 22)) e0 (e1.trans h23) rfl (DgC_one hB6.one) ((unhide HZ).kept hk0 (by simp)) rfl fun W hBW hkW => ⟨_, rfl, told_no rfl, nextG (St := (S43 w1 z (P.dg seq bs))) (by omega) ⟨(fun h => by cases h), fun _ => ⟨vs 22, hBW, (hk0.mono (by simp)).trans hkW, hB6.kept hkW (fun k hk hm => ?_), hf6⟩⟩⟩
      have := hf6 k hk; have := (unhide HZ).lt; simp at hm; omega
  intro l vs w9 hl hJ htold
  have t0 : vs 0 = P0 b := told_is _ (htold 0 (by decide)) rfl
  have t1 : vs 1 = P0 b := told_is _ (htold 1 (by decide)) rfl
  have t2 : vs 2 = .pointer (some ⟨b, 0, none⟩) := told_is _ (htold 2 (by decide)) rfl
  have t3 : vs 3 = .pointer (some ⟨b, 0, none⟩) := told_is _ (htold 3 (by decide)) rfl
  have t4 : vs 4 = .int .i64 P.me := told_is _ (htold 4 (by decide)) rfl
  have t5 : vs 5 = P0 b := told_is _ (htold 5 (by decide)) rfl
  have t6 : vs 6 = P0 b := told_is _ (htold 6 (by decide)) rfl
  have t7 : vs 7 = .pointer (some ⟨b, 0, none⟩) := told_is _ (htold 7 (by decide)) rfl
  have t8 : vs 8 = .pointer (some ⟨b, 1, none⟩) := told_is _ (htold 8 (by decide)) rfl
  have t9 : vs 9 = .int .i64 P.oth := told_is _ (htold 9 (by decide)) rfl
  have t10 : vs 10 = P0 b := told_is _ (htold 10 (by decide)) rfl
  have t11 : vs 11 = P0 b := told_is _ (htold 11 (by decide)) rfl
  have t12 : vs 12 = .pointer (some ⟨b, 0, none⟩) := told_is _ (htold 12 (by decide)) rfl
  have t13 : vs 13 = .pointer (some ⟨b, 2, none⟩) := told_is _ (htold 13 (by decide)) rfl
  have t14 : vs 14 = .int .i64 P.view := told_is _ (htold 14 (by decide)) rfl
  have t15 : vs 15 = .int .i64 seq := told_is _ (htold 15 (by decide)) rfl
  have t16 : vs 16 = P0 b := told_is _ (htold 16 (by decide)) rfl
  have t17 : vs 17 = P0 b := told_is _ (htold 17 (by decide)) rfl
  have t18 : vs 18 = .pointer (some ⟨b, 0, none⟩) := told_is _ (htold 18 (by decide)) rfl
  have t19 : vs 19 = .pointer (some ⟨b, 5, none⟩) := told_is _ (htold 19 (by decide)) rfl
  have t20 : vs 20 = .int .i64 P.got := told_is _ (htold 20 (by decide)) rfl
  have t21 : vs 21 = .slice ao m c := told_is _ (htold 21 (by decide)) rfl
  rw [show (List.range 25).map vs = [vs 0, vs 1, vs 2, vs 3, vs 4, vs 5, vs 6, vs 7, vs 8, vs 9, vs 10, vs 11, vs 12, vs 13, vs 14, vs 15, vs 16, vs 17, vs 18, vs 19, vs 20, vs 21, vs 22, vs 23, vs 24] from rfl]
  simp only [t0, t1, t2, t3, t4, t5, t6, t7, t8, t9, t10, t11, t12, t13, t14, t15, t16, t17, t18, t19, t20, t21, putAll, Act.put, List.setIfInBounds_toArray, List.set_cons_succ, List.set_cons_zero]
  clear t0 t1 t2 t3 t4 t5 t6 t7 t8 t9 t10 t11 t12 t13 t14 t15 t16 t17 t18 t19 t20 t21 htold
  obtain ⟨u, h1, h2, h3, h4⟩ := hJ.2 (hl 24 (by decide))
  have HR := hide h1
  have HB := hide h3
  have HF := hide h4
  have HQ : Hid (Kept [] w w9) := (unhide HK).fresh h2 (fun i hi hl => by have := unhide HE; simp at hi; omega)
  clear hJ hl h1 h2 h3 h4
  go_wp2
  exact bodyPost_ret (res43 _ z ((P.dg seq bs).C u) _ rfl rfl (unhide HR)) rfl ⟨u, rfl, unhide HB, fun k hk => by have := unhide HF k hk; have := (unhide HK).size; omega, unhide HQ⟩

end Go.Proofs.Ythbgnpbkdeofcaa
