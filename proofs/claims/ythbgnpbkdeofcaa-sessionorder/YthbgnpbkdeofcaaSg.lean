/-
  Rows of datagrams; what tell answers.
-/
import Derived.Test.YthbgnpbkdeofcaaSf
import Derived.BigQuiet
namespace Go.Proofs.Ythbgnpbkdeofcaa
set_option maxRecDepth 100000
open Go.RowKit

/-- Datagrams, each with the value of its body. -/
def cellsD (L : List (Dg × Value)) : List Value := L.flatMap fun p => p.1.C p.2
theorem cellsD_app (L M : List (Dg × Value)) : cellsD (L ++ M) = cellsD L ++ cellsD M := by simp [cellsD]
theorem cellsD_one (d : Dg) (u : Value) : cellsD [(d, u)] = d.C u := by simp [cellsD]
theorem cellsD_len (L : List (Dg × Value)) : (cellsD L).length = L.length * 6 := by
  induction L with
  | nil => rfl
  | cons p L ih =>
    have e : cellsD (p :: L) = p.1.C p.2 ++ cellsD L := rfl
    rw [e, List.length_append, ih, List.length_cons]
    have : (p.1.C p.2).length = 6 := rfl
    omega
theorem cellsD_get : ∀ (L : List (Dg × Value)) (k j : Nat) (p : Dg × Value), L[k]? = some p → j < 6 → (cellsD L)[k * 6 + j]? = (p.1.C p.2)[j]? := by
  intro L
  induction L with
  | nil => intro k j p h; simp at h
  | cons q L ih =>
    intro k j p h hj
    have e : cellsD (q :: L) = q.1.C q.2 ++ cellsD L := rfl
    have hl : (q.1.C q.2).length = 6 := rfl
    rw [e]
    cases k with
    | zero =>
      simp at h
      subst h
      rw [List.getElem?_append_left (by omega)]
      congr 1
      omega
    | succ k =>
      rw [List.getElem?_append_right (by omega), hl]
      rw [show (k + 1) * 6 + j - 6 = k * 6 + j by omega]
      exact ih k j p (by simpa using h) hj
/-- A row of datagrams of one's own, all of it made since B. -/
structure Dl (W : World) (B : Nat) (v : Value) (L : List (Dg × Value)) : Prop where
  row : W.ownsRow B 35 6 v L.length (cellsD L)
  bod : ∀ p ∈ L, Bod W p.2 p.1.bs
  new : ∀ p ∈ L, ∀ k, p.2.ownBlock = some k → B ≤ k
theorem Dl.nil (W : World) (B : Nat) : Dl W B (.slice none 0 0) [] := ⟨World.ownsRow_nil _ _ _ _, by simp, by simp⟩
theorem Dl.kept {W W' : World} {B : Nat} {v : Value} {L : List (Dg × Value)} {X : List Nat} (h : Dl W B v L) (hk : Kept X W W') (hv : ∀ k, v.ownBlock = some k → k ∉ X) (hb : ∀ p ∈ L, ∀ k, p.2.ownBlock = some k → k ∉ X) : Dl W' B v L :=
  ⟨owns_keptX h.row hk hv, fun p hp => (h.bod p hp).kept hk (hb p hp), h.new⟩
theorem Dl.kept0 {W W' : World} {B : Nat} {v : Value} {L : List (Dg × Value)} (h : Dl W B v L) (hk : Kept [] W W') : Dl W' B v L := h.kept hk (by simp) (by simp)
theorem Dl.base {W : World} {B B' : Nat} {v : Value} {L : List (Dg × Value)} (h : Dl W B v L) (hb : B' ≤ B) : Dl W B' v L := ⟨owns_base h.row hb, h.bod, fun p hp k e => by have := h.new p hp k e; omega⟩
theorem owns_slN {w : World} {base e size n : Nat} {v : Value} {xs : List Value} (h : w.ownsRow base e size v n xs) : ∃ ao c, v = .slice ao n c := by
  rcases h.2 with ⟨rfl, rfl⟩ | ⟨g, cap, cur, rfl, _⟩
  · exact ⟨_, _, rfl⟩
  · exact ⟨_, _, rfl⟩
theorem Dl.at {W : World} {B n sc k : Nat} {so : Option Addr} {L : List (Dg × Value)} {p : Dg × Value} (h : Dl W B (.slice so n sc) L) (hp : L[k]? = some p) : ∃ g, so = some ⟨g, 0, none⟩ ∧ W.rangeAt g (k * 6) (p.1.C p.2) := by
  have hlt : k < L.length := (List.getElem?_eq_some_iff.1 hp).1
  rcases h.row.2 with ⟨_, h2⟩ | ⟨g, cap, cur, h1, _, h3, _, _, _, h7⟩
  · omega
  · cases h1
    refine ⟨g, rfl, fun j v hj => ?_⟩
    have hj4 : j < 6 := (List.getElem?_eq_some_iff.1 hj).1
    have := cellsD_get L k j p hp hj4
    rw [hj, ← h7, List.getElem?_take_of_lt (by omega)] at this
    rw [cell_of_block h3, ← this, Array.getElem?_toList]
theorem Try.sl40 : Try.prog.underlying 40 = some (.slice 35) := by kernel_rfl
theorem Try.info35 : (Try.prog.info? 35).map (fun i => (i.zero, i.size, i.bytes)) = some (some (aggV zD), 6, 64) := by kernel_rfl
section
variable {ops : Array Oper} {rest : List Oper} {op : Oper} {a : Act} {w : World} {Q : Exit → Act → World → Prop}
theorem wpAppD (hgd : op.guard = none) (s x : Operand) (ho : op.op = .call { callee := .builtin .append, args := #[s, x], argTypes := #[40, 40] }) (B : Nat) (v : Value) (k : Nat) (xs : List Value) (hs : a.eval s = v) (g : Nat) (hx : a.eval x = .slice (some ⟨g, 0, none⟩) 1 1)
    (news : List Value) (hl : news.length = 6) (hB : Blk w g 35 news) (h1 : ∀ u ∈ news, u.oneCell' = true) (hown : w.ownsRow B 35 6 v k xs) (hk : k ≤ 100000) (hbase : B ≤ w.heap.size)
    (h : ∀ v' w', w'.ownsRow B 35 6 v' (k + 1) (xs ++ news) → w.grownBy w' v.ownBlock → wpList Try.prog ops Q rest (a.put op.dst v') w') : wpList Try.prog ops Q (op :: rest) a w := by
  obtain ⟨i0, hi, hz0, hz1, hz2⟩ := info_parts Try.info35
  refine wpList_append_own w hgd s x 40 ho B 35 i0 (aggV zD) 6 64 Try.sl40 hi hz0 hz1 hz2 rfl (by decide) v k xs hs hown ⟨g, 0, none⟩ 1 1 news hx (by omega) ?_ h1 (by unfold maxLen; omega) (by omega) hbase ?_
  · intro i u hu
    rw [Addr.add_lit, Nat.zero_add, hB.cell]; exact hu
  · intro v' w' g1 g2 _
    exact h v' w' g1 g2
theorem wpBoxP (hgd : op.guard = none) (x : Operand) (ho : op.op = .box 23 x) (b : Nat) (hx : a.eval x = P0 b)
    (h : ∀ W c, c = w.heap.size → Blk W c 23 [P0 b] → Kept [] w W → wpList Try.prog ops Q rest (a.put op.dst (P0 c)) W) : wpList Try.prog ops Q (op :: rest) a w :=
  wpList_plain hgd fun K hK => by
    have hr : (Instr.box 23 (P0 b)).run Try.prog w = .ok (P0 w.heap.size) (w.alloc (.cells [P0 b].toArray 23)) := by kernel_rfl
    unfold Oper.wp execOp
    simp only [ho, hx, Sem.run_bind, hr, Result.andThen_ok]
    exact hK _ _ (h _ _ rfl (Blk.new w 23 _) ((Kept.refl _ _).alloc _))
theorem wpBSliceD (hgd : op.guard = none) (x : Operand) (ho : op.op = .buildSlice 40 1 #[(0, x)]) (c0 c1 c2 c3 c4 c5 : Value) (hx : a.eval x = aggV [c0, c1, c2, c3, c4, c5])
    (h : ∀ W g, w.heap.size = g → Blk W g 35 [c0, c1, c2, c3, c4, c5] → Kept [] w W → wpList Try.prog ops Q rest (a.put op.dst (.slice (some ⟨g, 0, none⟩) 1 1)) W) : wpList Try.prog ops Q (op :: rest) a w :=
  wpList_plain hgd fun K hK => by
    have hr : (Instr.buildSlice 40 1 #[(0, aggV [c0, c1, c2, c3, c4, c5])]).run Try.prog w = .ok (.slice (some ⟨w.heap.size, 0, none⟩) 1 1) (w.alloc (.cells [c0, c1, c2, c3, c4, c5].toArray 35)) := by kernel_rfl
    unfold Oper.wp execOp
    simp only [ho, List.map_toArray, List.map_cons, List.map_nil, hx, Sem.run_bind, hr, Result.andThen_ok]
    exact hK _ _ (h _ _ rfl (Blk.new w 35 _) ((Kept.refl _ _).alloc _))
end
/-- What waits behind a number. -/
def Ps.at (P : Ps) (f i : Nat) : Dg := P.dg ((f : Int) + 1 + (i : Int)) (P.sent.getD (f + i) [])
def Ps.waitL (P : Ps) (f : Nat) : List Dg := (List.range (P.sent.length - f)).map (P.at f)
/-- What is told of what waits behind a number; of nothing what is owed. -/
def Ps.tellL (P : Ps) (f : Nat) : List Dg := if P.sent.length ≤ f ∧ P.owes = true then [P.dg 0 []] else P.waitL f
def Ps.toldP (P : Ps) : Ps := { P with told := P.sent.length, owes := false }
theorem toldP_ok {P : Ps} (h : P.Ok) : P.toldP.Ok := ⟨h.ne, h.known, Nat.le_refl _, h.got, h.many, h.small, h.byte⟩
theorem dl_more {W W' : World} {B : Nat} {v v' : Value} {L : List (Dg × Value)} {d : Dg} {u : Value} (h : Dl W B v L) (hr : W'.ownsRow B 35 6 v' (L.length + 1) (cellsD L ++ d.C u)) (hg : W.grownBy W' v.ownBlock) (hu : Bod W u d.bs) (hn : ∀ k, u.ownBlock = some k → B ≤ k) : Dl W' B v' (L ++ [(d, u)]) := by
  have hK : Kept v.ownBlock.toList W W' := Kept.of_grown hg (fun k e _ => by simp [e])
  have hno : ∀ x bs, Bod W x bs → ∀ k, x.ownBlock = some k → k ∉ v.ownBlock.toList := by
    intro x bs hx k hk hm
    obtain ⟨cs, hc⟩ := hx.block k hk
    obtain ⟨cs', hc'⟩ := owns_block h.row k (by simpa using hm)
    rw [hc] at hc'
    cases hc'
  refine ⟨by rw [cellsD_app, cellsD_one, List.length_append]; exact hr, fun p hp => ?_, fun p hp k e => ?_⟩
  · rcases List.mem_append.1 hp with hp | hp
    · exact (h.bod p hp).kept hK (hno _ _ (h.bod p hp))
    · simp at hp
      subst hp
      exact hu.kept hK (hno _ _ hu)
  · rcases List.mem_append.1 hp with hp | hp
    · exact h.new p hp k e
    · simp at hp
      subst hp
      exact hn k e
/-- A session told so far. -/
def Ps.part (P : Ps) (x y : Bool) : Ps := { P with told := if x then P.sent.length else P.told, owes := if y then false else P.owes }
theorem kept_drewN (X : List Nat) (w : World) (q : Nat) : Kept X w (w.drewN q) := ⟨rfl, rfl, rfl, Nat.le_refl _, fun _ _ _ => rfl⟩
theorem part_ok {P : Ps} (h : P.Ok) (x y : Bool) : (P.part x y).Ok := ⟨h.ne, h.known, by cases x; exact h.told; exact Nat.le_refl _, h.got, h.many, h.small, h.byte⟩
theorem part_sx {V W : World} {b : Nat} {v : Value} {ws : List Value} {P : Ps} {x y : Bool} (h : Sx V b v ws P) (h1 : Blk W b 68 ((P.part x y).C v)) (h2 : Kept [b] V W) : SR V b v ws W v ws (P.part x y) := by
  have hb : ∀ k, v.ownBlock = some k → k ∉ [b] := fun k e hm => h.hv k e (by simpa using hm)
  refine ⟨⟨part_ok h.ok x y, h1, h.row.kept h2 hb, h.len, fun i u bs hu hs => ?_⟩, h2.mono (by simp), fun k e => .inl e, fun u hu k e => .inl ⟨u, hu, e⟩⟩
  have hB := h.body i u bs hu hs
  exact hB.kept h2 (fun k e hm => h.away hB k e (by simp at hm; simp [hm]))
/-- What tell's last region keeps. -/
@[reducible] def S35 (V : World) (b : Nat) (v : Value) (P : Ps) (d : Nat → Bool) (_ : Nat → Value) (W : World) : Prop :=
  Kept [b] V W ∧ Blk W b 68 ((P.part (d 7) (d 11)).C v)
theorem S35.loc {V : World} {b : Nat} {v : Value} {P : Ps} : ∀ d d' vs vs' W, (∀ i ∈ [7, 11], d i = d' i ∧ vs i = vs' i) → S35 V b v P d vs W → S35 V b v P d' vs' W := by
  intro d d' vs vs' W H h
  have e0 := H 7 (by simp)
  have e1 := H 11 (by simp)
  unfold S35 at h ⊢
  rw [← e0.1, ← e1.1]
  exact h
set_option maxHeartbeats 2000000 in
theorem tell35 (b : Nat) (v : Value) (ws : List Value) (P : Ps) (f : Nat) (w : World) (h : Sx w b v ws P) (hf : P.known ≤ f) (hfl : f ≤ P.sent.length) : Calls Try.prog 35 #[P0 b, .int .i64 f] w fun e w' => ∃ dv L, e = .returned dv ∧ Dl w' w.heap.size dv L ∧ L.map Prod.fst = P.tellL f ∧ SR w b v ws w' v ws P.toldP := by
  obtain ⟨vo, vc, rfl, hvc, hvn⟩ := h.sl
  obtain ⟨k, hk⟩ : ∃ k, k = f - P.known := ⟨_, rfl⟩
  have hlen := h.len
  have HVC := hide hvc
  have HVN := hide hvn
  obtain ⟨ro, rc, n2, hro, hn2⟩ : ∃ ro rc n2, restV vo ws.length vc k = .slice ro n2 rc ∧ n2 = ws.length - k := ⟨_, _, _, rfl, rfl⟩
  have hO2 : OwnO w (.slice ro n2 rc) (ws.drop k) := by rw [← hro]; exact h.row.rest k (by omega)
  have HRO := hide hro
  have HKE : Hid ((f : Int) - (P.known : Int) = (k : Nat)) := (by omega : (f : Int) - (P.known : Int) = (k : Nat))
  have HLN : Hid (k ≤ ws.length ∧ P.known + ws.length = P.sent.length ∧ n2 = ws.length - k ∧ f = P.known + k ∧ P.sent.length ≤ 1000) := ⟨by omega, hlen, hn2, by omega, h.ok.many⟩
  have HS := hide h
  have HO2 := hide hO2
  clear h hro hO2 hvc hvn hk hlen hn2 hf hfl
  go_enter Try.func35, Try.ntmps35
  go_wp2_with (
    first
    | (refine wpBoxP (by rfl) (.tmp 0) (by rfl) b (by rfl) ?_
       intro w1 cb e1 B1 K1
       have HC := hide B1
       have HK := hide K1
       have HE := hide e1
       replace HS := hide ((unhide HS).kept0 K1)
       replace HO2 := hide ((unhide HO2).kept K1 (by simp))
       clear e1 B1 K1))
  have HH := hide (unhide HS).head
  refine wp_region_any mixed (wpAny_tq 14 rfl (by kernel_rfl) [some (P0 b), some (P0 b), some (.pointer (some ⟨b, 7, none⟩)), some (.slice vo ws.length vc), some (.int .i64 f), some (P0 b), some (P0 b), some (.pointer (some ⟨b, 0, none⟩)), some (.pointer (some ⟨b, 3, none⟩)), some (.int .i64 P.known), some (.int .i64 (k : Nat)), some (.slice ro n2 rc), some (.int .i64 n2), some (.int .i64 0)] rfl (by kernel_rfl) (by kernel_rfl) ?_ ?_)
  · intro i o' hi hsk ho a' w2 hout hin hk2
    replace hk2 : Kept [] w1 w2 := ⟨hk2.os, hk2.tape, hk2.output, hk2.size, hk2.block⟩
    match i, ho, hsk with
    | 0, ho, hsk =>
      obtain rfl := Option.some.inj ho
      exact o_load23 (.tmp 2) rfl _ _ ((hout 2 (by kernel_rfl)).trans rfl) (fits_cell ((unhide HC).kept hk2 (by simp)) 0 _ rfl) ⟨_, rfl, tq_is _ _ _ _ rfl, Kept.refl _ _, fun _ _ _ _ _ => trivial⟩
    | 1, ho, hsk =>
      obtain rfl := Option.some.inj ho
      have e0 : a'.eval (.tmp 10) = P0 b := is_tq (hin 0 10 (by kernel_rfl) (by kernel_rfl)) rfl
      exact o_nil (.tmp 10) rfl _ e0 ⟨_, rfl, tq_is _ _ _ _ rfl, Kept.refl _ _, fun _ _ _ _ _ => trivial⟩
    | 2, ho, hsk =>
      obtain rfl := Option.some.inj ho
      have e0 : a'.eval (.tmp 11) = P0 b := is_tq (hin 1 11 (by kernel_rfl) (by kernel_rfl)) rfl
      exact o_fld68_1 (.tmp 11) rfl b e0 ⟨_, rfl, tq_is _ _ _ _ rfl, Kept.refl _ _, fun _ _ _ _ _ => trivial⟩
    | 3, ho, hsk =>
      obtain rfl := Option.some.inj ho
      have e0 : a'.eval (.tmp 12) = .pointer (some ⟨b, 7, none⟩) := is_tq (hin 2 12 (by kernel_rfl) (by kernel_rfl)) rfl
      exact o_load30 (.tmp 12) rfl _ _ e0 (fits_cell ((unhide HH).kept hk2 (by simp)) 7 _ rfl) ⟨_, rfl, tq_is _ _ _ _ rfl, Kept.refl _ _, fun _ _ _ _ _ => trivial⟩
    | 4, ho, hsk =>
      obtain rfl := Option.some.inj ho
      exact wp_move (.tmp 1) rfl _ ((hout 1 (by kernel_rfl)).trans rfl) ⟨_, rfl, tq_is _ _ _ _ rfl, Kept.refl _ _, fun _ _ _ _ _ => trivial⟩
    | 5, ho, hsk =>
      obtain rfl := Option.some.inj ho
      exact o_load23 (.tmp 2) rfl _ _ ((hout 2 (by kernel_rfl)).trans rfl) (fits_cell ((unhide HC).kept hk2 (by simp)) 0 _ rfl) ⟨_, rfl, tq_is _ _ _ _ rfl, Kept.refl _ _, fun _ _ _ _ _ => trivial⟩
    | 6, ho, hsk =>
      obtain rfl := Option.some.inj ho
      have e0 : a'.eval (.tmp 15) = P0 b := is_tq (hin 5 15 (by kernel_rfl) (by kernel_rfl)) rfl
      exact o_nil (.tmp 15) rfl _ e0 ⟨_, rfl, tq_is _ _ _ _ rfl, Kept.refl _ _, fun _ _ _ _ _ => trivial⟩
    | 7, ho, hsk =>
      obtain rfl := Option.some.inj ho
      have e0 : a'.eval (.tmp 16) = P0 b := is_tq (hin 6 16 (by kernel_rfl) (by kernel_rfl)) rfl
      exact o_fld68_0 (.tmp 16) rfl b e0 ⟨_, rfl, tq_is _ _ _ _ rfl, Kept.refl _ _, fun _ _ _ _ _ => trivial⟩
    | 8, ho, hsk =>
      obtain rfl := Option.some.inj ho
      have e0 : a'.eval (.tmp 17) = .pointer (some ⟨b, 0, none⟩) := is_tq (hin 7 17 (by kernel_rfl) (by kernel_rfl)) rfl
      exact o_fld66_3 (.tmp 17) rfl b e0 ⟨_, rfl, tq_is _ _ _ _ rfl, Kept.refl _ _, fun _ _ _ _ _ => trivial⟩
    | 9, ho, hsk =>
      obtain rfl := Option.some.inj ho
      have e0 : a'.eval (.tmp 18) = .pointer (some ⟨b, 3, none⟩) := is_tq (hin 8 18 (by kernel_rfl) (by kernel_rfl)) rfl
      exact o_load2 (.tmp 18) rfl _ _ e0 (fits_cell ((unhide HH).kept hk2 (by simp)) 3 _ rfl) ⟨_, rfl, tq_is _ _ _ _ rfl, Kept.refl _ _, fun _ _ _ _ _ => trivial⟩
    | 10, ho, hsk =>
      obtain rfl := Option.some.inj ho
      have e0 : a'.eval (.tmp 14) = .int .i64 f := is_tq (hin 4 14 (by kernel_rfl) (by kernel_rfl)) rfl
      have e1 : a'.eval (.tmp 19) = .int .i64 P.known := is_tq (hin 9 19 (by kernel_rfl) (by kernel_rfl)) rfl
      refine o_sub2 (.tmp 14) (.tmp 19) rfl f P.known (by have := unhide HKE; have := unhide HLN; omega) e0 e1 ?_
      rw [unhide HKE]
      exact ⟨_, rfl, tq_is _ _ _ _ rfl, Kept.refl _ _, fun _ _ _ _ _ => trivial⟩
    | 11, ho, hsk =>
      obtain rfl := Option.some.inj ho
      have e0 : a'.eval (.tmp 13) = .slice vo ws.length vc := is_tq (hin 3 13 (by kernel_rfl) (by kernel_rfl)) rfl
      have e1 : a'.eval (.tmp 20) = .int .i64 (k : Nat) := is_tq (hin 10 20 (by kernel_rfl) (by kernel_rfl)) rfl
      refine o_rest (.tmp 13) 20 rfl vo ws.length vc k (unhide HVC) (unhide HVN) (by have := unhide HLN; omega) e0 e1 ?_
      rw [unhide HRO]
      exact ⟨_, rfl, tq_is _ _ _ _ rfl, Kept.refl _ _, fun _ _ _ _ _ => trivial⟩
    | 12, ho, hsk =>
      obtain rfl := Option.some.inj ho
      have e0 : a'.eval (.tmp 21) = .slice ro n2 rc := is_tq (hin 11 21 (by kernel_rfl) (by kernel_rfl)) rfl
      exact o_len30 (.tmp 21) rfl _ _ _ e0 ⟨_, rfl, tq_is _ _ _ _ rfl, Kept.refl _ _, fun _ _ _ _ _ => trivial⟩
    | 13, ho, hsk =>
      obtain rfl := Option.some.inj ho
      exact wp_move (.const (.int .i64 0)) rfl _ rfl ⟨_, rfl, tq_is _ _ _ _ rfl, Kept.refl _ _, fun _ _ _ _ _ => trivial⟩
  intro w9 hk9
  replace hk9 : Kept [] w1 w9 := ⟨hk9.os, hk9.tape, hk9.output, hk9.size, hk9.block⟩
  simp only [valsQ, List.map_cons, List.map_nil, Option.getD_some, List.take_succ_cons, List.take_zero, putAll, Act.put, List.setIfInBounds_toArray, List.set_cons_succ, List.set_cons_zero]
  refine wpAny_done (by kernel_rfl) ?_ _
  replace HS := hide ((unhide HS).kept0 hk9)
  replace HO2 := hide ((unhide HO2).kept hk9 (by simp))
  replace HC := hide ((unhide HC).kept hk9 (by simp))
  replace HK := hide ((unhide HK).trans hk9)
  clear hk9 HH
  have HSO := HS
  have HCO := HC
  go_wp2_with fail
  go_loopw [6, 23] (fun av i wr => ∃ (j : Nat) (L : List (Dg × Value)), j ≤ n2 ∧ i = .int .i64 j ∧ Hid (Dl wr w9.heap.size av L) ∧ Hid (L.map Prod.fst = (List.range j).map (P.at f)) ∧ Hid (Kept [] w9 wr)) (fun _ i _ => n2 - (intOf i).toNat)
  case atStart => exact ⟨0, [], by omega, rfl, Dl.nil _ _, rfl, Kept.refl _ _⟩
  case round =>
    obtain ⟨j, L, hj, rfl, HD, HL, HJ⟩ := hrel
    replace HS := hide ((unhide HS).kept0 (unhide HJ))
    replace HO2 := hide ((unhide HO2).kept (unhide HJ) (by simp))
    replace HC := hide ((unhide HC).kept (unhide HJ) (by simp))
    have hLL : L.length = j := by have := congrArg List.length (unhide HL); simpa using this
    have HLL := hide hLL
    by_cases hlt : j < n2
    · have hln := unhide HLN
      obtain ⟨u, hu⟩ : ∃ u, (ws.drop k)[j]? = some u := ⟨_, List.getElem?_eq_getElem (by rw [List.length_drop]; omega)⟩
      obtain ⟨bs, hbs⟩ : ∃ bs, P.sent[P.known + (k + j)]? = some bs := ⟨_, List.getElem?_eq_getElem (by omega)⟩
      have hB := (unhide HS).body (k + j) u bs (by rw [← hu, List.getElem?_drop]) hbs
      have hmem : bs ∈ P.sent := List.mem_of_getElem? hbs
      have hsm := (unhide HS).ok.small bs hmem
      obtain ⟨uo, uc, rfl, hVu, hnu⟩ := hB.sl
      have hat : P.at f j = P.dg ((f : Int) + 1 + (j : Int)) bs := by
        unfold Ps.at
        rw [show f + j = P.known + (k + j) by omega, List.getD_eq_getElem?_getD, hbs]
        rfl
      have hw1 : IntKind.i64.wrap ((f : Int) + 1) = (f : Int) + 1 := by rw [IntKind.wrap_i64]; omega
      have hw2 : IntKind.i64.wrap ((f : Int) + 1 + (j : Int)) = (f : Int) + 1 + (j : Int) := by rw [IntKind.wrap_i64]; omega
      have hltI : (j : Int) < (n2 : Int) := by omega
      have hn1 : n2 ≤ 1000 := by omega
      rcases unhide HO2 with ⟨h1, _⟩ | ⟨g, off, cap, cur, h1, hcur, _, _, _, hcell⟩
      · exfalso; cases h1; omega
      · have hc9 : wr.cell? ⟨g, off + j, none⟩ = some (.slice uo bs.length uc) := by rw [cell_of_block hcur]; exact hcell j _ hu
        injection h1 with h1 h1b h1c
        subst h1
        clear h1b h1c
        have P43 := hide (make43 cb b _ ws P ((f : Int) + 1 + (j : Int)) uo bs.length uc bs wr (unhide HS) (unhide HC) hVu hnu hB.byte hsm)
        have HAT := hide hat
        clear hln hu hbs hB hmem hsm hVu hnu hat hcur hcell hLL
        go_wp2_with (
          first
          | (go_at_call 43
             refine (unhide P43).mono ?_
             rintro e W3 ⟨nu, rfl, hB3, hf3, hk3⟩
             have HB3 := hide hB3
             have HF3 : Hid (∀ k, nu.ownBlock = some k → w9.heap.size ≤ k) := fun k e => by have := hf3 k e; have := (unhide HJ).size; omega
             replace HD := hide ((unhide HD).kept0 hk3)
             replace HJ := hide ((unhide HJ).trans hk3)
             clear hB3 hf3 hk3 hc9 P43
             refine Stp.go ?_))
        constructor
        go_wp2_with (
          first
          | (refine wpBSliceD (by rfl) (.tmp 35) (by rfl) (.int .i64 P.me) (.int .i64 P.oth) (.int .i64 P.view) (.int .i64 ((f : Int) + 1 + (j : Int))) (.int .i64 P.got) nu (by kernel_rfl) ?_
             intro W4 g4 e4 B4 K4
             have HB4 : Hid (Blk W4 g4 35 ((P.dg ((f : Int) + 1 + (j : Int)) bs).C nu)) := B4
             replace HD := hide ((unhide HD).kept0 K4)
             replace HJ := hide ((unhide HJ).trans K4)
             replace HB3 := hide ((unhide HB3).kept K4 (by simp))
             clear e4 B4 K4
             refine Stp.go ?_))
        constructor
        go_wp2_with (
          first
          | (at_builtin; refine wpAppD (by rfl) (.tmp 28) (.tmp 36) (by rfl) w9.heap.size u6 L.length (cellsD L) (by kernel_rfl) g4 (by kernel_rfl) _ rfl (unhide HB4) (DgC_one (unhide HB3).one) (unhide HD).row (by have := unhide HLN; have := unhide HLL; omega) (unhide HJ).size ?_
             intro v5 W5 hO5 g5
             have HD5 := hide (dl_more (unhide HD) hO5 g5 (unhide HB3) (unhide HF3))
             replace HJ : Hid (Kept [] w9 W5) := kept_grown (unhide HJ) g5 (fun k hk => ((unhide HD).row.lt k hk).1)
             clear hO5 g5))
        go_roundw
        case rel => exact ⟨j + 1, _, by omega, by go_num, HD5, by rw [List.map_append, unhide HL, List.range_succ, List.map_append, List.map_singleton, List.map_singleton, unhide HAT]; rfl, HJ⟩
        case measure => simp [intOf]; omega
    · have hjn : j = n2 := by omega
      have HJN := hide hjn
      have HKV := hide ((unhide HK).trans (unhide HJ))
      have HBL : Hid (b < w9.heap.size) := by have h1 := (unhide HSO).lt.1; exact h1
      have HCB : Hid (cb ∉ [b]) := fun hm => by
        have h1 := unhide HC
        have h2 := (unhide HS).head
        simp at hm
        subst hm
        unfold Blk at h1 h2
        rw [h1] at h2
        cases h2
      obtain ⟨so, sc, rfl⟩ := owns_slN (unhide HD).row
      by_cases hz : L.length = 0
      · have hzI : ((L.length : Nat) : Int) = 0 := by omega
        have hLnil : L = [] := List.length_eq_zero_iff.1 hz
        subst hLnil
        have HSL : Hid (P.sent.length ≤ f) := by have h1 := unhide HLN; have h2 := unhide HLL; have h3 := unhide HJN; simp at h2; exact (by omega : P.sent.length ≤ f)
        have hc0 := fits_cell (unhide HC) 0 _ rfl
        have hc6 := fits_cell (unhide HS).head 6 _ rfl
        have hltI : ¬ (j : Int) < (n2 : Int) := by omega
        clear hjn hj hLL hz hzI
        cases ho : P.owes with
        | true =>
          rw [ho] at hc6
          have P43 := hide (make43 cb b _ ws P 0 none 0 0 [] wr (unhide HS) (unhide HC) ⟨rfl, Nat.le_refl _, by simp [u8s]⟩ (fun _ => ⟨rfl, rfl⟩) (by simp) (by omega))
          have HOW := hide ho
          clear ho
          go_wp2_with (
            first
            | (go_at_call 43
               refine (unhide P43).mono ?_
               rintro e W3 ⟨nu, rfl, hB3, hf3, hk3⟩
               have HB3 := hide hB3
               have HF3 : Hid (∀ k, nu.ownBlock = some k → w9.heap.size ≤ k) := fun k e => by have := hf3 k e; have := (unhide HJ).size; omega
               replace HD := hide ((unhide HD).kept0 hk3)
               replace HJ := hide ((unhide HJ).trans hk3)
               replace HS := hide ((unhide HS).kept0 hk3)
               replace HC := hide ((unhide HC).kept hk3 (by simp))
               replace HKV := hide ((unhide HKV).trans hk3)
               clear hB3 hf3 hk3 P43 hc0 hc6
               refine Stp.go ?_))
          constructor
          go_wp2_with (
            first
            | (refine wpBSliceD (by rfl) (.tmp 51) (by rfl) (.int .i64 P.me) (.int .i64 P.oth) (.int .i64 P.view) (.int .i64 0) (.int .i64 P.got) nu (by kernel_rfl) ?_
               intro W4 g4 e4 B4 K4
               have HB4 : Hid (Blk W4 g4 35 ((P.dg 0 []).C nu)) := B4
               replace HD := hide ((unhide HD).kept0 K4)
               replace HJ := hide ((unhide HJ).trans K4)
               replace HS := hide ((unhide HS).kept0 K4)
               replace HC := hide ((unhide HC).kept K4 (by simp))
               replace HKV := hide ((unhide HKV).trans K4)
               replace HB3 := hide ((unhide HB3).kept K4 (by simp))
               clear e4 B4 K4
               refine Stp.go ?_))
          constructor
          go_wp2_with (
            first
            | (at_builtin; refine wpAppD (by rfl) (.tmp 49) (.tmp 52) (by rfl) w9.heap.size _ 0 (cellsD []) (by kernel_rfl) g4 (by kernel_rfl) _ rfl (unhide HB4) (DgC_one (unhide HB3).one) (unhide HD).row (by omega) (unhide HJ).size ?_
               intro v5 W5 hO5 g5
               replace HJ : Hid (Kept [] w9 W5) := kept_grown (unhide HJ) g5 (fun k hk => ((unhide HD).row.lt k hk).1)
               replace HD := hide (dl_more (L := []) (unhide HD) hO5 g5 (unhide HB3) (unhide HF3))
               replace HS := hide ((unhide HSO).kept0 (unhide HJ))
               replace HC := hide ((unhide HCO).kept (unhide HJ) (by simp))
               replace HKV := hide ((unhide HK).trans (unhide HJ))
               clear hO5 g5 HJ))
          refine wp_region_any mixed (wpAny_gx 12 rfl (by kernel_rfl) [some (P0 b), some (P0 b), some (P0 b), some (.int .i64 P.sent.length), some (P0 b), some (.pointer (some ⟨b, 0, none⟩)), some (.pointer (some ⟨b, 4, none⟩)), none, some (P0 b), some (.pointer (some ⟨b, 0, none⟩)), some (.pointer (some ⟨b, 6, none⟩)), none] rfl (by kernel_rfl) (fun l vs W => (S35 W5 b (.slice vo ws.length vc) P) (fun i => l.getD i false) vs W) (⟨⟨rfl, rfl, rfl, Nat.le_refl _, fun _ _ _ => rfl⟩, (unhide HS).head⟩) ?_ ?_)
          · intro ix o' hi ho a' w2 l vs hls hlf hJ hout hin hdep hnot
            match ix, ho with
            | 0, ho =>
              obtain rfl := Option.some.inj ho
              have e0 := hout 2 (by kernel_rfl)
              replace e0 : a'.eval (.tmp 2) = _ := e0.trans rfl
              exact o_load23 (.tmp 2) rfl _ _ e0 (fits_cell ((unhide HC).kept hJ.1 (unhide HCB)) 0 _ rfl) ⟨_, rfl, told_of rfl, keepG (St := (S35 W5 b (.slice vo ws.length vc) P)) [7, 11] S35.loc (by omega) (by decide) hJ⟩
            | 1, ho =>
              obtain rfl := Option.some.inj ho
              have e0 := hout 2 (by kernel_rfl)
              replace e0 : a'.eval (.tmp 2) = _ := e0.trans rfl
              exact o_load23 (.tmp 2) rfl _ _ e0 (fits_cell ((unhide HC).kept hJ.1 (unhide HCB)) 0 _ rfl) ⟨_, rfl, told_of rfl, keepG (St := (S35 W5 b (.slice vo ws.length vc) P)) [7, 11] S35.loc (by omega) (by decide) hJ⟩
            | 2, ho =>
              obtain rfl := Option.some.inj ho
              have e0 := hout 2 (by kernel_rfl)
              replace e0 : a'.eval (.tmp 2) = _ := e0.trans rfl
              exact o_load23 (.tmp 2) rfl _ _ e0 (fits_cell ((unhide HC).kept hJ.1 (unhide HCB)) 0 _ rfl) ⟨_, rfl, told_of rfl, keepG (St := (S35 W5 b (.slice vo ws.length vc) P)) [7, 11] S35.loc (by omega) (by decide) hJ⟩
            | 3, ho =>
              obtain rfl := Option.some.inj ho
              have e0 : a'.eval (.tmp 56) = P0 b := by have h9 := hin 2 56 (by kernel_rfl) (by kernel_rfl); exact h9.1.trans (told_is _ h9.2 rfl)
              refine wp_callF 44 _ _ rfl #[P0 b] (by simp [e0]) (cf44 _ _) ((sent44 b _ ws _ _ (part_sx (unhide HS) hJ.2 hJ.1).sx).mono ?_)
              rintro e w3 ⟨rfl, q3, rfl⟩
              exact ⟨_, rfl, _, rfl, told_of rfl, keepG (St := (S35 W5 b (.slice vo ws.length vc) P)) [7, 11] S35.loc (by omega) (by decide) ⟨hJ.1.trans (kept_drewN _ _ _), hJ.2⟩⟩
            | 4, ho =>
              obtain rfl := Option.some.inj ho
              have e0 : a'.eval (.tmp 54) = P0 b := by have h9 := hin 0 54 (by kernel_rfl) (by kernel_rfl); exact h9.1.trans (told_is _ h9.2 rfl)
              exact o_nil (.tmp 54) rfl _ e0 ⟨_, rfl, told_of rfl, keepG (St := (S35 W5 b (.slice vo ws.length vc) P)) [7, 11] S35.loc (by omega) (by decide) hJ⟩
            | 5, ho =>
              obtain rfl := Option.some.inj ho
              have e0 : a'.eval (.tmp 58) = P0 b := by have h9 := hin 4 58 (by kernel_rfl) (by kernel_rfl); exact h9.1.trans (told_is _ h9.2 rfl)
              exact o_fld68_0 (.tmp 58) rfl _ e0 ⟨_, rfl, told_of rfl, keepG (St := (S35 W5 b (.slice vo ws.length vc) P)) [7, 11] S35.loc (by omega) (by decide) hJ⟩
            | 6, ho =>
              obtain rfl := Option.some.inj ho
              have e0 : a'.eval (.tmp 59) = .pointer (some ⟨b, 0, none⟩) := by have h9 := hin 5 59 (by kernel_rfl) (by kernel_rfl); exact h9.1.trans (told_is _ h9.2 rfl)
              exact o_fld66_4 (.tmp 59) rfl _ e0 ⟨_, rfl, told_of rfl, keepG (St := (S35 W5 b (.slice vo ws.length vc) P)) [7, 11] S35.loc (by omega) (by decide) hJ⟩
            | 7, ho =>
              obtain rfl := Option.some.inj ho
              have e0 : a'.eval (.tmp 60) = .pointer (some ⟨b, 4, none⟩) := by have h9 := hin 6 60 (by kernel_rfl) (by kernel_rfl); exact h9.1.trans (told_is _ h9.2 rfl)
              have e1 : a'.eval (.tmp 57) = .int .i64 P.sent.length := by have h9 := hin 3 57 (by kernel_rfl) (by kernel_rfl); exact h9.1.trans (told_is _ h9.2 rfl)
              have h7 : l.getD 7 false = false := hlf
              refine o_st2 (.tmp 60) (.tmp 57) rfl rfl b 4 68 _ _ e0 e1 ⟨_, rfl⟩ hJ.2 (by simp [Ps.C]) fun W hBW hkW => ⟨_, rfl, told_no rfl, nextG (St := (S35 W5 b (.slice vo ws.length vc) P)) (by omega) ⟨hJ.1.trans hkW, hBW⟩⟩
            | 8, ho =>
              obtain rfl := Option.some.inj ho
              have e0 : a'.eval (.tmp 55) = P0 b := by have h9 := hin 1 55 (by kernel_rfl) (by kernel_rfl); exact h9.1.trans (told_is _ h9.2 rfl)
              exact o_nil (.tmp 55) rfl _ e0 ⟨_, rfl, told_of rfl, keepG (St := (S35 W5 b (.slice vo ws.length vc) P)) [7, 11] S35.loc (by omega) (by decide) hJ⟩
            | 9, ho =>
              obtain rfl := Option.some.inj ho
              have e0 : a'.eval (.tmp 61) = P0 b := by have h9 := hin 8 61 (by kernel_rfl) (by kernel_rfl); exact h9.1.trans (told_is _ h9.2 rfl)
              exact o_fld68_0 (.tmp 61) rfl _ e0 ⟨_, rfl, told_of rfl, keepG (St := (S35 W5 b (.slice vo ws.length vc) P)) [7, 11] S35.loc (by omega) (by decide) hJ⟩
            | 10, ho =>
              obtain rfl := Option.some.inj ho
              have e0 : a'.eval (.tmp 62) = .pointer (some ⟨b, 0, none⟩) := by have h9 := hin 9 62 (by kernel_rfl) (by kernel_rfl); exact h9.1.trans (told_is _ h9.2 rfl)
              exact o_fld66_6 (.tmp 62) rfl _ e0 ⟨_, rfl, told_of rfl, keepG (St := (S35 W5 b (.slice vo ws.length vc) P)) [7, 11] S35.loc (by omega) (by decide) hJ⟩
            | 11, ho =>
              obtain rfl := Option.some.inj ho
              have e0 : a'.eval (.tmp 63) = .pointer (some ⟨b, 6, none⟩) := by have h9 := hin 10 63 (by kernel_rfl) (by kernel_rfl); exact h9.1.trans (told_is _ h9.2 rfl)
              refine o_st4 (.tmp 63) (.const (.bool false)) rfl rfl b 6 68 _ (.bool false) e0 rfl ⟨_, rfl⟩ hJ.2 (by simp [Ps.C]) fun W hBW hkW => ⟨_, rfl, told_no rfl, nextG (St := (S35 W5 b (.slice vo ws.length vc) P)) (by omega) ⟨hJ.1.trans hkW, hBW⟩⟩
          intro l vs w8 hl hJ htold
          have t0 : vs 0 = P0 b := told_is _ (htold 0 (by decide)) rfl
          have t1 : vs 1 = P0 b := told_is _ (htold 1 (by decide)) rfl
          have t2 : vs 2 = P0 b := told_is _ (htold 2 (by decide)) rfl
          have t3 : vs 3 = .int .i64 P.sent.length := told_is _ (htold 3 (by decide)) rfl
          have t4 : vs 4 = P0 b := told_is _ (htold 4 (by decide)) rfl
          have t5 : vs 5 = .pointer (some ⟨b, 0, none⟩) := told_is _ (htold 5 (by decide)) rfl
          have t6 : vs 6 = .pointer (some ⟨b, 4, none⟩) := told_is _ (htold 6 (by decide)) rfl
          have t8 : vs 8 = P0 b := told_is _ (htold 8 (by decide)) rfl
          have t9 : vs 9 = .pointer (some ⟨b, 0, none⟩) := told_is _ (htold 9 (by decide)) rfl
          have t10 : vs 10 = .pointer (some ⟨b, 6, none⟩) := told_is _ (htold 10 (by decide)) rfl
          rw [show (List.range 12).map vs = [vs 0, vs 1, vs 2, vs 3, vs 4, vs 5, vs 6, vs 7, vs 8, vs 9, vs 10, vs 11] from rfl]
          simp only [t0, t1, t2, t3, t4, t5, t6, t8, t9, t10, putAll, Act.put, List.setIfInBounds_toArray, List.set_cons_succ, List.set_cons_zero]
          clear t0 t1 t2 t3 t4 t5 t6 t8 t9 t10 htold
          have hJ2 : Blk w8 b 68 ((P.part true true).C (.slice vo ws.length vc)) := by have h9 := hJ.2; simp only [hl 7 (by decide), hl 11 (by decide)] at h9; exact h9
          have HR := hide ((part_sx (unhide HS) hJ2 hJ.1).after (unhide HKV))
          have HDZ := hide ((unhide HD).kept hJ.1 (fun k e hm => by have h9 := ((unhide HD).row.lt k e).1; have h8 := unhide HBL; simp at hm; omega) (fun p hp k e hm => by have h9 := (unhide HD).new p hp k e; have h8 := unhide HBL; simp at hm; omega))
          clear hJ hl hJ2
          go_wp2_with fail
          go_ret
          exact ⟨_, _, rfl, (unhide HDZ).base (unhide HK).size, by unfold Ps.tellL; rw [if_pos ⟨unhide HSL, unhide HOW⟩]; rfl, unhide HR⟩
        | false =>
          rw [ho] at hc6
          have HOW := hide ho
          clear ho
          go_wp2_with fail
          clear hc0 hc6
          refine wp_region_any mixed (wpAny_gx 12 rfl (by kernel_rfl) [some (P0 b), some (P0 b), some (P0 b), some (.int .i64 P.sent.length), some (P0 b), some (.pointer (some ⟨b, 0, none⟩)), some (.pointer (some ⟨b, 4, none⟩)), none, some (P0 b), some (.pointer (some ⟨b, 0, none⟩)), some (.pointer (some ⟨b, 6, none⟩)), none] rfl (by kernel_rfl) (fun l vs W => (S35 wr b (.slice vo ws.length vc) P) (fun i => l.getD i false) vs W) (⟨⟨rfl, rfl, rfl, Nat.le_refl _, fun _ _ _ => rfl⟩, (unhide HS).head⟩) ?_ ?_)
          · intro ix o' hi ho a' w2 l vs hls hlf hJ hout hin hdep hnot
            match ix, ho with
            | 0, ho =>
              obtain rfl := Option.some.inj ho
              have e0 := hout 2 (by kernel_rfl)
              replace e0 : a'.eval (.tmp 2) = _ := e0.trans rfl
              exact o_load23 (.tmp 2) rfl _ _ e0 (fits_cell ((unhide HC).kept hJ.1 (unhide HCB)) 0 _ rfl) ⟨_, rfl, told_of rfl, keepG (St := (S35 wr b (.slice vo ws.length vc) P)) [7, 11] S35.loc (by omega) (by decide) hJ⟩
            | 1, ho =>
              obtain rfl := Option.some.inj ho
              have e0 := hout 2 (by kernel_rfl)
              replace e0 : a'.eval (.tmp 2) = _ := e0.trans rfl
              exact o_load23 (.tmp 2) rfl _ _ e0 (fits_cell ((unhide HC).kept hJ.1 (unhide HCB)) 0 _ rfl) ⟨_, rfl, told_of rfl, keepG (St := (S35 wr b (.slice vo ws.length vc) P)) [7, 11] S35.loc (by omega) (by decide) hJ⟩
            | 2, ho =>
              obtain rfl := Option.some.inj ho
              have e0 := hout 2 (by kernel_rfl)
              replace e0 : a'.eval (.tmp 2) = _ := e0.trans rfl
              exact o_load23 (.tmp 2) rfl _ _ e0 (fits_cell ((unhide HC).kept hJ.1 (unhide HCB)) 0 _ rfl) ⟨_, rfl, told_of rfl, keepG (St := (S35 wr b (.slice vo ws.length vc) P)) [7, 11] S35.loc (by omega) (by decide) hJ⟩
            | 3, ho =>
              obtain rfl := Option.some.inj ho
              have e0 : a'.eval (.tmp 56) = P0 b := by have h9 := hin 2 56 (by kernel_rfl) (by kernel_rfl); exact h9.1.trans (told_is _ h9.2 rfl)
              refine wp_callF 44 _ _ rfl #[P0 b] (by simp [e0]) (cf44 _ _) ((sent44 b _ ws _ _ (part_sx (unhide HS) hJ.2 hJ.1).sx).mono ?_)
              rintro e w3 ⟨rfl, q3, rfl⟩
              exact ⟨_, rfl, _, rfl, told_of rfl, keepG (St := (S35 wr b (.slice vo ws.length vc) P)) [7, 11] S35.loc (by omega) (by decide) ⟨hJ.1.trans (kept_drewN _ _ _), hJ.2⟩⟩
            | 4, ho =>
              obtain rfl := Option.some.inj ho
              have e0 : a'.eval (.tmp 54) = P0 b := by have h9 := hin 0 54 (by kernel_rfl) (by kernel_rfl); exact h9.1.trans (told_is _ h9.2 rfl)
              exact o_nil (.tmp 54) rfl _ e0 ⟨_, rfl, told_of rfl, keepG (St := (S35 wr b (.slice vo ws.length vc) P)) [7, 11] S35.loc (by omega) (by decide) hJ⟩
            | 5, ho =>
              obtain rfl := Option.some.inj ho
              have e0 : a'.eval (.tmp 58) = P0 b := by have h9 := hin 4 58 (by kernel_rfl) (by kernel_rfl); exact h9.1.trans (told_is _ h9.2 rfl)
              exact o_fld68_0 (.tmp 58) rfl _ e0 ⟨_, rfl, told_of rfl, keepG (St := (S35 wr b (.slice vo ws.length vc) P)) [7, 11] S35.loc (by omega) (by decide) hJ⟩
            | 6, ho =>
              obtain rfl := Option.some.inj ho
              have e0 : a'.eval (.tmp 59) = .pointer (some ⟨b, 0, none⟩) := by have h9 := hin 5 59 (by kernel_rfl) (by kernel_rfl); exact h9.1.trans (told_is _ h9.2 rfl)
              exact o_fld66_4 (.tmp 59) rfl _ e0 ⟨_, rfl, told_of rfl, keepG (St := (S35 wr b (.slice vo ws.length vc) P)) [7, 11] S35.loc (by omega) (by decide) hJ⟩
            | 7, ho =>
              obtain rfl := Option.some.inj ho
              have e0 : a'.eval (.tmp 60) = .pointer (some ⟨b, 4, none⟩) := by have h9 := hin 6 60 (by kernel_rfl) (by kernel_rfl); exact h9.1.trans (told_is _ h9.2 rfl)
              have e1 : a'.eval (.tmp 57) = .int .i64 P.sent.length := by have h9 := hin 3 57 (by kernel_rfl) (by kernel_rfl); exact h9.1.trans (told_is _ h9.2 rfl)
              have h7 : l.getD 7 false = false := hlf
              refine o_st2 (.tmp 60) (.tmp 57) rfl rfl b 4 68 _ _ e0 e1 ⟨_, rfl⟩ hJ.2 (by simp [Ps.C]) fun W hBW hkW => ⟨_, rfl, told_no rfl, nextG (St := (S35 wr b (.slice vo ws.length vc) P)) (by omega) ⟨hJ.1.trans hkW, hBW⟩⟩
            | 8, ho =>
              obtain rfl := Option.some.inj ho
              have e0 : a'.eval (.tmp 55) = P0 b := by have h9 := hin 1 55 (by kernel_rfl) (by kernel_rfl); exact h9.1.trans (told_is _ h9.2 rfl)
              exact o_nil (.tmp 55) rfl _ e0 ⟨_, rfl, told_of rfl, keepG (St := (S35 wr b (.slice vo ws.length vc) P)) [7, 11] S35.loc (by omega) (by decide) hJ⟩
            | 9, ho =>
              obtain rfl := Option.some.inj ho
              have e0 : a'.eval (.tmp 61) = P0 b := by have h9 := hin 8 61 (by kernel_rfl) (by kernel_rfl); exact h9.1.trans (told_is _ h9.2 rfl)
              exact o_fld68_0 (.tmp 61) rfl _ e0 ⟨_, rfl, told_of rfl, keepG (St := (S35 wr b (.slice vo ws.length vc) P)) [7, 11] S35.loc (by omega) (by decide) hJ⟩
            | 10, ho =>
              obtain rfl := Option.some.inj ho
              have e0 : a'.eval (.tmp 62) = .pointer (some ⟨b, 0, none⟩) := by have h9 := hin 9 62 (by kernel_rfl) (by kernel_rfl); exact h9.1.trans (told_is _ h9.2 rfl)
              exact o_fld66_6 (.tmp 62) rfl _ e0 ⟨_, rfl, told_of rfl, keepG (St := (S35 wr b (.slice vo ws.length vc) P)) [7, 11] S35.loc (by omega) (by decide) hJ⟩
            | 11, ho =>
              obtain rfl := Option.some.inj ho
              have e0 : a'.eval (.tmp 63) = .pointer (some ⟨b, 6, none⟩) := by have h9 := hin 10 63 (by kernel_rfl) (by kernel_rfl); exact h9.1.trans (told_is _ h9.2 rfl)
              refine o_st4 (.tmp 63) (.const (.bool false)) rfl rfl b 6 68 _ (.bool false) e0 rfl ⟨_, rfl⟩ hJ.2 (by simp [Ps.C]) fun W hBW hkW => ⟨_, rfl, told_no rfl, nextG (St := (S35 wr b (.slice vo ws.length vc) P)) (by omega) ⟨hJ.1.trans hkW, hBW⟩⟩
          intro l vs w8 hl hJ htold
          have t0 : vs 0 = P0 b := told_is _ (htold 0 (by decide)) rfl
          have t1 : vs 1 = P0 b := told_is _ (htold 1 (by decide)) rfl
          have t2 : vs 2 = P0 b := told_is _ (htold 2 (by decide)) rfl
          have t3 : vs 3 = .int .i64 P.sent.length := told_is _ (htold 3 (by decide)) rfl
          have t4 : vs 4 = P0 b := told_is _ (htold 4 (by decide)) rfl
          have t5 : vs 5 = .pointer (some ⟨b, 0, none⟩) := told_is _ (htold 5 (by decide)) rfl
          have t6 : vs 6 = .pointer (some ⟨b, 4, none⟩) := told_is _ (htold 6 (by decide)) rfl
          have t8 : vs 8 = P0 b := told_is _ (htold 8 (by decide)) rfl
          have t9 : vs 9 = .pointer (some ⟨b, 0, none⟩) := told_is _ (htold 9 (by decide)) rfl
          have t10 : vs 10 = .pointer (some ⟨b, 6, none⟩) := told_is _ (htold 10 (by decide)) rfl
          rw [show (List.range 12).map vs = [vs 0, vs 1, vs 2, vs 3, vs 4, vs 5, vs 6, vs 7, vs 8, vs 9, vs 10, vs 11] from rfl]
          simp only [t0, t1, t2, t3, t4, t5, t6, t8, t9, t10, putAll, Act.put, List.setIfInBounds_toArray, List.set_cons_succ, List.set_cons_zero]
          clear t0 t1 t2 t3 t4 t5 t6 t8 t9 t10 htold
          have hJ2 : Blk w8 b 68 ((P.part true true).C (.slice vo ws.length vc)) := by have h9 := hJ.2; simp only [hl 7 (by decide), hl 11 (by decide)] at h9; exact h9
          have HR := hide ((part_sx (unhide HS) hJ2 hJ.1).after (unhide HKV))
          have HDZ := hide ((unhide HD).kept hJ.1 (fun k e hm => by have h9 := ((unhide HD).row.lt k e).1; have h8 := unhide HBL; simp at hm; omega) (fun p hp k e hm => by have h9 := (unhide HD).new p hp k e; have h8 := unhide HBL; simp at hm; omega))
          clear hJ hl hJ2
          go_wp2_with fail
          go_ret
          exact ⟨_, _, rfl, (unhide HDZ).base (unhide HK).size, by unfold Ps.tellL; rw [if_neg (fun h => by rw [unhide HOW] at h; cases h.2)]; unfold Ps.waitL; rw [show P.sent.length - f = 0 by have := unhide HSL; omega]; rfl, unhide HR⟩
      · have hzI : ¬ ((L.length : Nat) : Int) = 0 := by omega
        have HSL : Hid (j = P.sent.length - f ∧ ¬ P.sent.length ≤ f) := by have h1 := unhide HLN; have h2 := unhide HLL; have h3 := unhide HJN; exact ⟨by omega, by omega⟩
        have hltI : ¬ (j : Int) < (n2 : Int) := by omega
        clear hjn hj hLL
        go_wp2_with fail
        refine wp_region_any mixed (wpAny_gx 12 rfl (by kernel_rfl) [some (P0 b), some (P0 b), some (P0 b), some (.int .i64 P.sent.length), some (P0 b), some (.pointer (some ⟨b, 0, none⟩)), some (.pointer (some ⟨b, 4, none⟩)), none, some (P0 b), some (.pointer (some ⟨b, 0, none⟩)), some (.pointer (some ⟨b, 6, none⟩)), none] rfl (by kernel_rfl) (fun l vs W => (S35 wr b (.slice vo ws.length vc) P) (fun i => l.getD i false) vs W) (⟨⟨rfl, rfl, rfl, Nat.le_refl _, fun _ _ _ => rfl⟩, (unhide HS).head⟩) ?_ ?_)
        · intro ix o' hi ho a' w2 l vs hls hlf hJ hout hin hdep hnot
          match ix, ho with
          | 0, ho =>
            obtain rfl := Option.some.inj ho
            have e0 := hout 2 (by kernel_rfl)
            replace e0 : a'.eval (.tmp 2) = _ := e0.trans rfl
            exact o_load23 (.tmp 2) rfl _ _ e0 (fits_cell ((unhide HC).kept hJ.1 (unhide HCB)) 0 _ rfl) ⟨_, rfl, told_of rfl, keepG (St := (S35 wr b (.slice vo ws.length vc) P)) [7, 11] S35.loc (by omega) (by decide) hJ⟩
          | 1, ho =>
            obtain rfl := Option.some.inj ho
            have e0 := hout 2 (by kernel_rfl)
            replace e0 : a'.eval (.tmp 2) = _ := e0.trans rfl
            exact o_load23 (.tmp 2) rfl _ _ e0 (fits_cell ((unhide HC).kept hJ.1 (unhide HCB)) 0 _ rfl) ⟨_, rfl, told_of rfl, keepG (St := (S35 wr b (.slice vo ws.length vc) P)) [7, 11] S35.loc (by omega) (by decide) hJ⟩
          | 2, ho =>
            obtain rfl := Option.some.inj ho
            have e0 := hout 2 (by kernel_rfl)
            replace e0 : a'.eval (.tmp 2) = _ := e0.trans rfl
            exact o_load23 (.tmp 2) rfl _ _ e0 (fits_cell ((unhide HC).kept hJ.1 (unhide HCB)) 0 _ rfl) ⟨_, rfl, told_of rfl, keepG (St := (S35 wr b (.slice vo ws.length vc) P)) [7, 11] S35.loc (by omega) (by decide) hJ⟩
          | 3, ho =>
            obtain rfl := Option.some.inj ho
            have e0 : a'.eval (.tmp 56) = P0 b := by have h9 := hin 2 56 (by kernel_rfl) (by kernel_rfl); exact h9.1.trans (told_is _ h9.2 rfl)
            refine wp_callF 44 _ _ rfl #[P0 b] (by simp [e0]) (cf44 _ _) ((sent44 b _ ws _ _ (part_sx (unhide HS) hJ.2 hJ.1).sx).mono ?_)
            rintro e w3 ⟨rfl, q3, rfl⟩
            exact ⟨_, rfl, _, rfl, told_of rfl, keepG (St := (S35 wr b (.slice vo ws.length vc) P)) [7, 11] S35.loc (by omega) (by decide) ⟨hJ.1.trans (kept_drewN _ _ _), hJ.2⟩⟩
          | 4, ho =>
            obtain rfl := Option.some.inj ho
            have e0 : a'.eval (.tmp 54) = P0 b := by have h9 := hin 0 54 (by kernel_rfl) (by kernel_rfl); exact h9.1.trans (told_is _ h9.2 rfl)
            exact o_nil (.tmp 54) rfl _ e0 ⟨_, rfl, told_of rfl, keepG (St := (S35 wr b (.slice vo ws.length vc) P)) [7, 11] S35.loc (by omega) (by decide) hJ⟩
          | 5, ho =>
            obtain rfl := Option.some.inj ho
            have e0 : a'.eval (.tmp 58) = P0 b := by have h9 := hin 4 58 (by kernel_rfl) (by kernel_rfl); exact h9.1.trans (told_is _ h9.2 rfl)
            exact o_fld68_0 (.tmp 58) rfl _ e0 ⟨_, rfl, told_of rfl, keepG (St := (S35 wr b (.slice vo ws.length vc) P)) [7, 11] S35.loc (by omega) (by decide) hJ⟩
          | 6, ho =>
            obtain rfl := Option.some.inj ho
            have e0 : a'.eval (.tmp 59) = .pointer (some ⟨b, 0, none⟩) := by have h9 := hin 5 59 (by kernel_rfl) (by kernel_rfl); exact h9.1.trans (told_is _ h9.2 rfl)
            exact o_fld66_4 (.tmp 59) rfl _ e0 ⟨_, rfl, told_of rfl, keepG (St := (S35 wr b (.slice vo ws.length vc) P)) [7, 11] S35.loc (by omega) (by decide) hJ⟩
          | 7, ho =>
            obtain rfl := Option.some.inj ho
            have e0 : a'.eval (.tmp 60) = .pointer (some ⟨b, 4, none⟩) := by have h9 := hin 6 60 (by kernel_rfl) (by kernel_rfl); exact h9.1.trans (told_is _ h9.2 rfl)
            have e1 : a'.eval (.tmp 57) = .int .i64 P.sent.length := by have h9 := hin 3 57 (by kernel_rfl) (by kernel_rfl); exact h9.1.trans (told_is _ h9.2 rfl)
            have h7 : l.getD 7 false = false := hlf
            refine o_st2 (.tmp 60) (.tmp 57) rfl rfl b 4 68 _ _ e0 e1 ⟨_, rfl⟩ hJ.2 (by simp [Ps.C]) fun W hBW hkW => ⟨_, rfl, told_no rfl, nextG (St := (S35 wr b (.slice vo ws.length vc) P)) (by omega) ⟨hJ.1.trans hkW, hBW⟩⟩
          | 8, ho =>
            obtain rfl := Option.some.inj ho
            have e0 : a'.eval (.tmp 55) = P0 b := by have h9 := hin 1 55 (by kernel_rfl) (by kernel_rfl); exact h9.1.trans (told_is _ h9.2 rfl)
            exact o_nil (.tmp 55) rfl _ e0 ⟨_, rfl, told_of rfl, keepG (St := (S35 wr b (.slice vo ws.length vc) P)) [7, 11] S35.loc (by omega) (by decide) hJ⟩
          | 9, ho =>
            obtain rfl := Option.some.inj ho
            have e0 : a'.eval (.tmp 61) = P0 b := by have h9 := hin 8 61 (by kernel_rfl) (by kernel_rfl); exact h9.1.trans (told_is _ h9.2 rfl)
            exact o_fld68_0 (.tmp 61) rfl _ e0 ⟨_, rfl, told_of rfl, keepG (St := (S35 wr b (.slice vo ws.length vc) P)) [7, 11] S35.loc (by omega) (by decide) hJ⟩
          | 10, ho =>
            obtain rfl := Option.some.inj ho
            have e0 : a'.eval (.tmp 62) = .pointer (some ⟨b, 0, none⟩) := by have h9 := hin 9 62 (by kernel_rfl) (by kernel_rfl); exact h9.1.trans (told_is _ h9.2 rfl)
            exact o_fld66_6 (.tmp 62) rfl _ e0 ⟨_, rfl, told_of rfl, keepG (St := (S35 wr b (.slice vo ws.length vc) P)) [7, 11] S35.loc (by omega) (by decide) hJ⟩
          | 11, ho =>
            obtain rfl := Option.some.inj ho
            have e0 : a'.eval (.tmp 63) = .pointer (some ⟨b, 6, none⟩) := by have h9 := hin 10 63 (by kernel_rfl) (by kernel_rfl); exact h9.1.trans (told_is _ h9.2 rfl)
            refine o_st4 (.tmp 63) (.const (.bool false)) rfl rfl b 6 68 _ (.bool false) e0 rfl ⟨_, rfl⟩ hJ.2 (by simp [Ps.C]) fun W hBW hkW => ⟨_, rfl, told_no rfl, nextG (St := (S35 wr b (.slice vo ws.length vc) P)) (by omega) ⟨hJ.1.trans hkW, hBW⟩⟩
        intro l vs w8 hl hJ htold
        have t0 : vs 0 = P0 b := told_is _ (htold 0 (by decide)) rfl
        have t1 : vs 1 = P0 b := told_is _ (htold 1 (by decide)) rfl
        have t2 : vs 2 = P0 b := told_is _ (htold 2 (by decide)) rfl
        have t3 : vs 3 = .int .i64 P.sent.length := told_is _ (htold 3 (by decide)) rfl
        have t4 : vs 4 = P0 b := told_is _ (htold 4 (by decide)) rfl
        have t5 : vs 5 = .pointer (some ⟨b, 0, none⟩) := told_is _ (htold 5 (by decide)) rfl
        have t6 : vs 6 = .pointer (some ⟨b, 4, none⟩) := told_is _ (htold 6 (by decide)) rfl
        have t8 : vs 8 = P0 b := told_is _ (htold 8 (by decide)) rfl
        have t9 : vs 9 = .pointer (some ⟨b, 0, none⟩) := told_is _ (htold 9 (by decide)) rfl
        have t10 : vs 10 = .pointer (some ⟨b, 6, none⟩) := told_is _ (htold 10 (by decide)) rfl
        rw [show (List.range 12).map vs = [vs 0, vs 1, vs 2, vs 3, vs 4, vs 5, vs 6, vs 7, vs 8, vs 9, vs 10, vs 11] from rfl]
        simp only [t0, t1, t2, t3, t4, t5, t6, t8, t9, t10, putAll, Act.put, List.setIfInBounds_toArray, List.set_cons_succ, List.set_cons_zero]
        clear t0 t1 t2 t3 t4 t5 t6 t8 t9 t10 htold
        have hJ2 : Blk w8 b 68 ((P.part true true).C (.slice vo ws.length vc)) := by have h9 := hJ.2; simp only [hl 7 (by decide), hl 11 (by decide)] at h9; exact h9
        have HR := hide ((part_sx (unhide HS) hJ2 hJ.1).after (unhide HKV))
        have HDZ := hide ((unhide HD).kept hJ.1 (fun k e hm => by have h9 := ((unhide HD).row.lt k e).1; have h8 := unhide HBL; simp at hm; omega) (fun p hp k e hm => by have h9 := (unhide HD).new p hp k e; have h8 := unhide HBL; simp at hm; omega))
        clear hJ hl hJ2
        go_wp2_with fail
        go_ret
        exact ⟨_, _, rfl, (unhide HDZ).base (unhide HK).size, by unfold Ps.tellL; rw [if_neg (fun h => (unhide HSL).2 h.1), unhide HL, (unhide HSL).1]; rfl, unhide HR⟩

end Go.Proofs.Ythbgnpbkdeofcaa
