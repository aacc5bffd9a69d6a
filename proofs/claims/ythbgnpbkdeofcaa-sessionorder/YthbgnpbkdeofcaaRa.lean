/-
  The document's session: Send.
-/
import Derived.Test.YthbgnpbkdeofcaaOpn
namespace Go.Proofs.Ythbgnpbkdeofcaa
set_option maxRecDepth 100000
open Go.RowKit

theorem Try.info5 : (Try.prog.info? 5).map (fun i => (i.zero, i.size, i.bytes)) = some (some (.int .u8 0), 1, 1) := by kernel_rfl
section
variable {o : Oper} {a : Act} {w : World} {K : Act → World → Prop} {Q : Exit → Act → World → Prop}
/-- An append to a row of one's own, as a single operation. -/
theorem o_appG {T e size by8 : Nat} {z : Value} (hT : Try.prog.underlying T = some (.slice e)) (hI : (Try.prog.info? e).map (fun i => (i.zero, i.size, i.bytes)) = some (some z, size, by8)) (hz : z.cells.size = size) (hs0 : 0 < size) (s x : Operand) (ho : o.op = .call { callee := .builtin .append, args := #[s, x], argTypes := #[T, T] })
    (B : Nat) (v : Value) (k : Nat) (xs ys : List Value) (hs : a.eval s = v) (hown : w.ownsRow B e size v k xs) (ao : Option Addr) (m c : Nat) (hx : a.eval x = .slice ao m c) (hnil : ao = none → m = 0 ∧ c = 0) (hl : ys.length = m * size) (hys : ∀ ad, ao = some ad → ∀ j u, ys[j]? = some u → w.cell? (ad.add j) = some u) (hone : ∀ u ∈ ys, u.oneCell' = true) (hk : k + m ≤ 140737488355328) (hb8 : (k + m) * by8 ≤ 140737488355328) (hB : B ≤ w.heap.size)
    (h : ∀ v' w', w'.ownsRow B e size v' (k + m) (xs ++ ys) → w.grownBy w' v.ownBlock → (v'.ownBlock = v.ownBlock ∨ v'.ownBlock = some w.heap.size) → K (a.put o.dst v') w') : o.wp Try.prog a w K Q := by
  obtain ⟨i, hi, hz0, hz1, hz2⟩ := info_parts hI
  cases ao with
  | none =>
    obtain ⟨rfl, rfl⟩ := hnil rfl
    obtain rfl : ys = [] := List.length_eq_zero_iff.1 (by omega)
    have hr := run_append_owned_none (P := Try.prog) (w := w) B T o.type e i size hT hi v k xs hown
    unfold Oper.wp execOp
    simp only [ho, resolve, invoke, builtin, Sem.run_bind, Sem.run_pure, Result.andThen_ok, List.map_toArray, List.map_cons, List.map_nil, hs, hx, hr]
    exact h v w (by rw [List.append_nil]; exact hown) ⟨rfl, rfl, rfl, Nat.le_refl _, fun _ _ _ => rfl⟩ (.inl rfl)
  | some ad =>
    obtain ⟨v', w', hr, h2, h3, _, h5⟩ := run_append_own_at (P := Try.prog) w B T o.type e i z size by8 hT hi hz0 hz1 hz2 hz hs0 v k xs hown ad m c ys hl (hys ad rfl) hone (by simp [maxLen]; omega) hb8 hB
    unfold Oper.wp execOp
    simp only [ho, resolve, invoke, builtin, Sem.run_bind, Sem.run_pure, Result.andThen_ok, List.map_toArray, List.map_cons, List.map_nil, hs, hx, hr]
    exact h v' w' h2 h3 h5
/-- append([]byte(nil), x...): a copy. -/
theorem o_appB (x : Operand) (ho : o.op = .call { callee := .builtin .append, args := #[.const (.slice none 0 0), x], argTypes := #[33, 33] }) (ao : Option Addr) (m c : Nat) (bs : List Int) (hx : a.eval x = .slice ao m c) (hnil : ao = none → m = 0 ∧ c = 0) (hV : Vals w ao m c (u8s bs)) (hby : ∀ x ∈ bs, 0 ≤ x ∧ x < 256) (hm : m ≤ 140737488355328)
    (h : ∀ v' w', Bod w' v' bs → (∀ k, v'.ownBlock = some k → w.heap.size ≤ k) → Kept [] w w' → K (a.put o.dst v') w') : o.wp Try.prog a w K Q := by
  have hl := hV.len
  refine o_appG (T := 33) (e := 5) (size := 1) (by8 := 1) (z := .int .u8 0) Try.underlying33 Try.info5 rfl (by decide) (.const (.slice none 0 0)) x ho w.heap.size (.slice none 0 0) 0 [] (u8s bs) rfl (World.ownsRow_nil _ _ _ _) ao m c hx hnil (by omega) (fun ad e j u hj => ?_) (u8s_one _) (by omega) (by omega) (Nat.le_refl _) fun v' w' h1 h2 h3 => ?_
  · subst e
    obtain ⟨g, off, e2, hr⟩ := hV.lies (by intro e; rw [e] at hj; simp at hj)
    cases e2
    rw [Addr.add_mid]
    exact hr j u hj
  · rw [List.nil_append, Nat.zero_add] at h1
    have hl2 : bs.length = m := by rw [← hl, u8s_len]
    refine h v' w' ⟨by rw [hl2]; exact owns_base h1 (Nat.zero_le _), hby⟩ (fun k e => (h1.lt k e).1) (Kept.of_grown h2 (fun k e _ => by cases e))
end
/-- The document's session stands in memory. -/
def Ps.R (P : Ps) (v : Value) : List Value := [.int .i64 P.me, .int .i64 P.oth, .int .i64 P.view, v, .int .i64 P.known, .int .i64 P.told, .int .i64 P.got, .bool P.owes]
structure Rx (W : World) (b : Nat) (v : Value) (ws : List Value) (P : Ps) : Prop where
  ok : P.Ok
  head : Blk W b 32 (P.R v)
  row : OwnO W v ws
  len : ws.length = P.sent.length
  body : ∀ (i : Nat) u bs, ws[i]? = some u → P.sent[i]? = some bs → Bod W u bs
theorem Rx.kept {W W' : World} {b : Nat} {v : Value} {ws : List Value} {P : Ps} {X : List Nat} (h : Rx W b v ws P) (hk : Kept X W W') (hb : b ∉ X) (hv : ∀ k, v.ownBlock = some k → k ∉ X) (hw : ∀ u ∈ ws, ∀ k, u.ownBlock = some k → k ∉ X) : Rx W' b v ws P :=
  ⟨h.ok, h.head.kept hk hb, h.row.kept hk hv, h.len, fun i u bs hu hs => (h.body i u bs hu hs).kept hk (hw u (List.mem_of_getElem? hu))⟩
theorem Rx.kept0 {W W' : World} {b : Nat} {v : Value} {ws : List Value} {P : Ps} (h : Rx W b v ws P) (hk : Kept [] W W') : Rx W' b v ws P := h.kept hk (by simp) (by simp) (by simp)
theorem Rx.bod {W : World} {b : Nat} {v : Value} {ws : List Value} {P : Ps} (h : Rx W b v ws P) {u : Value} (hu : u ∈ ws) : ∃ bs, Bod W u bs := by
  obtain ⟨i, hi⟩ := List.getElem?_of_mem hu
  have hlt := (List.getElem?_eq_some_iff.1 hi).1
  have := h.len
  exact ⟨_, h.body i u _ hi (List.getElem?_eq_getElem (by omega))⟩
theorem Rx.lt {W : World} {b : Nat} {v : Value} {ws : List Value} {P : Ps} (h : Rx W b v ws P) : b < W.heap.size ∧ (∀ k, v.ownBlock = some k → k < W.heap.size) ∧ ∀ u ∈ ws, ∀ k, u.ownBlock = some k → k < W.heap.size := by
  refine ⟨h.head.lt, fun k e => ?_, fun u hu k e => ?_⟩
  · obtain ⟨cs, hc⟩ := h.row.block k e
    exact lt_of_block hc
  · obtain ⟨bs, hb⟩ := h.bod hu
    obtain ⟨cs, hc⟩ := hb.block k e
    exact lt_of_block hc
theorem Rx.notin {W : World} {b : Nat} {v : Value} {ws : List Value} {P : Ps} (h : Rx W b v ws P) {p T : Nat} {cs : Array Value} {q : Nat × Nat} (hp : W.heap[p]? = some (.cells cs T q)) (h1 : T ≠ 32) (h2 : T ≠ 33) : p ∉ b :: v.ownBlock.toList := by
  simp only [List.mem_cons, Option.mem_toList, not_or]
  refine ⟨?_, ?_⟩
  · rintro rfl
    have := h.head
    unfold Blk at this
    rw [this] at hp
    injection hp with hp
    injection hp with g1 g2
    exact h1 g2.symm
  · intro e
    obtain ⟨cs', hc'⟩ := h.row.block p e
    rw [hc'] at hp
    injection hp with hp
    injection hp with g1 g2
    exact h2 g2.symm
theorem Rx.away {W : World} {b : Nat} {v : Value} {ws : List Value} {P : Ps} (h : Rx W b v ws P) {u : Value} {bs : List Int} (hu : Bod W u bs) : ∀ k, u.ownBlock = some k → k ∉ b :: v.ownBlock.toList := by
  intro k hk
  obtain ⟨cs, hc⟩ := hu.block k hk
  exact h.notin hc (by decide) (by decide)
theorem Rx.hv {W : World} {b : Nat} {v : Value} {ws : List Value} {P : Ps} (h : Rx W b v ws P) : ∀ k, v.ownBlock = some k → k ≠ b := by
  intro k e he
  subst he
  obtain ⟨cs', hc'⟩ := h.row.block k e
  have := h.head
  unfold Blk at this
  rw [hc'] at this
  cases this
theorem Rx.sl {W : World} {b : Nat} {v : Value} {ws : List Value} {P : Ps} (h : Rx W b v ws P) : ∃ ao c, v = .slice ao ws.length c ∧ ws.length ≤ c ∧ (ao = none → c = 0) := h.row.sl
/-- What a call that writes the document's session leaves. -/
structure RR (w : World) (b : Nat) (v : Value) (ws : List Value) (w' : World) (v' : Value) (ws' : List Value) (P' : Ps) : Prop where
  sx : Rx w' b v' ws' P'
  kept : Kept (b :: v.ownBlock.toList) w w'
  own : ∀ k, v'.ownBlock = some k → v.ownBlock = some k ∨ w.heap.size ≤ k
  bods : ∀ u ∈ ws', ∀ k, u.ownBlock = some k → (∃ u0 ∈ ws, u0.ownBlock = some k) ∨ w.heap.size ≤ k
theorem RR.same {w w' : World} {b : Nat} {v : Value} {ws : List Value} {P : Ps} (h : Rx w b v ws P) (hk : Kept [] w w') : RR w b v ws w' v ws P := ⟨h.kept0 hk, hk.mono (by simp), fun _ e => .inl e, fun u hu _ e => .inl ⟨u, hu, e⟩⟩
theorem RR.after {w w1 w' : World} {b : Nat} {v v' : Value} {ws ws' : List Value} {P' : Ps} (hk : Kept [] w w1) (h : RR w1 b v ws w' v' ws' P') : RR w b v ws w' v' ws' P' :=
  ⟨h.sx, (hk.mono (by simp)).trans h.kept, fun k e => (h.own k e).imp id (fun x => by have := hk.size; omega), fun u hu k e => (h.bods u hu k e).imp id (fun x => by have := hk.size; omega)⟩
theorem RR.more {w w1 w' : World} {b : Nat} {v v' : Value} {ws ws' : List Value} {P' : Ps} (h : RR w b v ws w1 v' ws' P') (hk : Kept [] w1 w') : RR w b v ws w' v' ws' P' :=
  ⟨h.sx.kept0 hk, h.kept.trans (hk.mono (by simp)), h.own, h.bods⟩
theorem RR.trans {w w1 w' : World} {b : Nat} {v v1 v' : Value} {ws ws1 ws' : List Value} {P1 P' : Ps} (h : RR w b v ws w1 v1 ws1 P1) (g : RR w1 b v1 ws1 w' v' ws' P') : RR w b v ws w' v' ws' P' := by
  have hs := h.kept.size
  refine ⟨g.sx, ?_, fun k e => ?_, fun u hu k e => ?_⟩
  · refine h.kept.fresh g.kept (fun i hi hl => ?_)
    rcases List.mem_cons.1 hi with rfl | hi
    · simp
    · rcases h.own i (by simpa using hi) with e | e
      · simp [e]
      · omega
  · rcases g.own k e with e1 | e1
    · exact h.own k e1
    · exact .inr (by omega)
  · rcases g.bods u hu k e with ⟨u0, hu0, e0⟩ | e1
    · exact h.bods u0 hu0 k e0
    · exact .inr (by omega)
theorem RR.bod {W W' : World} {b : Nat} {v v' : Value} {ws ws' : List Value} {P P' : Ps} (h : RR W b v ws W' v' ws' P') (hs : Rx W b v ws P) {u : Value} {bs : List Int} (hu : Bod W u bs) : Bod W' u bs := hu.kept h.kept (hs.away hu)
theorem RR.dl {W W' : World} {b : Nat} {v v' : Value} {ws ws' : List Value} {P P' : Ps} (h : RR W b v ws W' v' ws' P') (hs : Rx W b v ws P) {B : Nat} {dv : Value} {L : List (Dg × Value)} (hd : Dl W B dv L) : Dl W' B dv L :=
  hd.kept h.kept (fun k e => by obtain ⟨cs, hc⟩ := owns_block hd.row k e; exact hs.notin hc (by decide) (by decide)) (fun p hp k e => hs.away (hd.bod p hp) k e)
theorem rhead_sx {V W : World} {b : Nat} {v : Value} {ws : List Value} {P P' : Ps} (h : Rx V b v ws P) (hok : P'.Ok) (hs : P'.sent = P.sent) (h1 : Blk W b 32 (P'.R v)) (h2 : Kept [b] V W) : RR V b v ws W v ws P' := by
  have hb : ∀ k, v.ownBlock = some k → k ∉ [b] := fun k e hm => h.hv k e (by simpa using hm)
  refine ⟨⟨hok, h1, h.row.kept h2 hb, by rw [hs]; exact h.len, fun i u bs hu hs' => ?_⟩, h2.mono (by simp), fun k e => .inl e, fun u hu k e => .inl ⟨u, hu, e⟩⟩
  rw [hs] at hs'
  have hB := h.body i u bs hu hs'
  exact hB.kept h2 (fun k e hm => h.away hB k e (by simp at hm; simp [hm]))
theorem may10 (m n v : Int) (w : World) : Calls Try.prog 10 #[.int .i64 m, .int .i64 n, .int .i64 v] w fun e w' => e = .returned (.bool (mayB m n v)) ∧ w' = w := by
  by_cases h1 : 0 ≤ m
  · by_cases h2 : m < 8
    · by_cases h3 : 0 ≤ n
      · by_cases h4 : n < 8
        · by_cases h5 : m = n
          · go_enter Try.func10, Try.ntmps10
            go_wp2
            go_ret
            exact ⟨by simp [mayB, nodeB, numB, h5], rfl⟩
          · by_cases h6 : 0 ≤ v
            · go_enter Try.func10, Try.ntmps10
              go_wp2
              go_ret
              exact ⟨by simp [mayB, nodeB, numB, h1, h2, h3, h4, h5, h6], rfl⟩
            · go_enter Try.func10, Try.ntmps10
              go_wp2
              go_ret
              exact ⟨by simp [mayB, nodeB, numB]; omega, rfl⟩
        · go_enter Try.func10, Try.ntmps10
          go_wp2
          go_ret
          exact ⟨by simp [mayB, nodeB, numB]; omega, rfl⟩
      · go_enter Try.func10, Try.ntmps10
        go_wp2
        go_ret
        exact ⟨by simp [mayB, nodeB, numB]; omega, rfl⟩
    · go_enter Try.func10, Try.ntmps10
      go_wp2
      go_ret
      exact ⟨by simp [mayB, nodeB, numB]; omega, rfl⟩
  · go_enter Try.func10, Try.ntmps10
    go_wp2
    go_ret
    exact ⟨by simp [mayB, nodeB, numB]; omega, rfl⟩
theorem rsend_sx {V W : World} {b : Nat} {v v' u : Value} {ws : List Value} {P : Ps} {bs : List Int} (h : Rx V b v ws P) (hb : ∀ x ∈ bs, 0 ≤ x ∧ x < 256) (hs : bs.length ≤ 256) (hm : P.sent.length < 1000) (h1 : OwnO W v' (ws ++ [u])) (h2 : Blk W b 32 (P.R v')) (h3 : Kept (b :: v.ownBlock.toList) V W) (h4 : ∀ k, v'.ownBlock = some k → v.ownBlock = some k ∨ V.heap.size ≤ k) (h5 : Bod W u bs) (h6 : ∀ k, u.ownBlock = some k → V.heap.size ≤ k) : RR V b v ws W v' (ws ++ [u]) (P.put bs) := by
  have hl := h.len
  refine ⟨⟨put_ok h.ok hb hs hm, h2, h1, ?_, ?_⟩, h3, h4, ?_⟩
  · simp only [Ps.put, List.length_append, List.length_singleton]; omega
  · intro i x l hx hsl
    simp only [Ps.put] at hsl
    by_cases hi : i < ws.length
    · rw [List.getElem?_append_left hi] at hx
      rw [List.getElem?_append_left (by omega)] at hsl
      have hB := h.body i x l hx hsl
      exact hB.kept h3 (h.away hB)
    · rw [List.getElem?_append_right (by omega)] at hx
      rw [List.getElem?_append_right (by omega)] at hsl
      have hi0 : i - ws.length = 0 := by have := (List.getElem?_eq_some_iff.1 hx).1; simp at this; omega
      rw [hi0] at hx
      rw [show i - P.sent.length = 0 by omega] at hsl
      simp at hx hsl
      subst hx hsl
      exact h5
  · intro x hx k e
    rcases List.mem_append.1 hx with hx | hx
    · exact .inl ⟨x, hx, e⟩
    · simp at hx
      subst hx
      exact .inr (h6 k e)
/-- What Send's region keeps. -/
@[reducible] def S13 (V : World) (b : Nat) (v : Value) (ws : List Value) (P : Ps) (bs : List Int) (d : Nat → Bool) (vs : Nat → Value) (W : World) : Prop :=
  (d 11 = false → (d 8 = false → Kept [] V W) ∧ (d 6 = true → (Bod W (vs 6) bs ∧ ∀ k, (vs 6).ownBlock = some k → V.heap.size ≤ k)) ∧ (d 7 = true → d 8 = false → ∃ p, vs 7 = .slice (some ⟨p, 0, none⟩) 1 1 ∧ Blk W p 33 [vs 6]) ∧ (d 8 = true → OwnO W (vs 8) (ws ++ [vs 6]) ∧ Kept v.ownBlock.toList V W ∧ ∀ k, (vs 8).ownBlock = some k → v.ownBlock = some k ∨ V.heap.size ≤ k)) ∧
  (d 11 = true → ∃ v' u, OwnO W v' (ws ++ [u]) ∧ Blk W b 32 (P.R v') ∧ Kept (b :: v.ownBlock.toList) V W ∧ (∀ k, v'.ownBlock = some k → v.ownBlock = some k ∨ V.heap.size ≤ k) ∧ Bod W u bs ∧ ∀ k, u.ownBlock = some k → V.heap.size ≤ k)
theorem S13.loc {V : World} {b : Nat} {v : Value} {ws : List Value} {P : Ps} {bs : List Int} : ∀ d d' vs vs' W, (∀ i ∈ [6, 7, 8, 11], d i = d' i ∧ vs i = vs' i) → S13 V b v ws P bs d vs W → S13 V b v ws P bs d' vs' W := by
  intro d d' vs vs' W H h
  have e0 := H 6 (by simp)
  have e1 := H 7 (by simp)
  have e2 := H 8 (by simp)
  have e4 := H 11 (by simp)
  unfold S13 at h ⊢
  rw [← e0.1, ← e0.2, ← e1.1, ← e1.2, ← e2.1, ← e2.2, ← e4.1]
  exact h
theorem rsend_no (b : Nat) (ao : Option Addr) (m c : Nat) (w : World) (hm : 256 < m) : Calls Try.prog 13 #[P0 b, .slice ao m c] w fun e w' => e = .returned (.int .i64 3) ∧ w' = w := by
  have hd : (256 : Int) < (m : Int) := by omega
  go_enter Try.func13, Try.ntmps13
  go_wp2
  go_ret
  exact ⟨rfl, rfl⟩
set_option maxHeartbeats 2000000 in
theorem rsend_yes (b : Nat) (v : Value) (ws : List Value) (P : Ps) (ao : Option Addr) (m c : Nat) (bs : List Int) (w : World) (h : Rx w b v ws P) (hV : Vals w ao m c (u8s bs)) (hnil : ao = none → m = 0 ∧ c = 0) (hb : ∀ x ∈ bs, 0 ≤ x ∧ x < 256) (hm : m ≤ 256) (hl : P.sent.length < 1000) : Calls Try.prog 13 #[P0 b, .slice ao m c] w fun e w' => e = .returned (.int .i64 0) ∧ ∃ v' ws', RR w b v ws w' v' ws' (P.put bs) := by
  obtain ⟨vo, vc, rfl, _, _⟩ := h.sl
  have hd : ¬ (256 : Int) < (m : Int) := by omega
  have hml : bs.length = m := by have := hV.len; rw [u8s_len] at this; exact this
  have HS := hide h
  have HV := hide hV
  have HN := hide hnil
  have HBY := hide hb
  have HM := hide hm
  have HML := hide hml
  have HLL := hide hl
  have HH := hide h.head
  have HO := hide h.row
  have HL : Hid (ws.length ≤ 1000) := by have h1 := h.len; have h2 := h.ok.many; exact (by omega : ws.length ≤ 1000)
  have HVL := hide h.lt.2.1
  have HNL : Hid (b ∉ (Value.slice vo ws.length vc).ownBlock.toList) := fun hm => (unhide HS).hv b (by simpa using hm) rfl
  clear h hV hnil hb hm hl hml
  go_enter Try.func13, Try.ntmps13
  go_wp2_with fail
  refine wp_region_any mixed (wpAny_gx 12 rfl (by kernel_rfl) [some (P0 b), some (P0 b), some (P0 b), some (.pointer (some ⟨b, 3, none⟩)), some (.slice vo ws.length vc), some (.slice ao m c), none, none, none, some (P0 b), some (.pointer (some ⟨b, 3, none⟩)), none] rfl (by kernel_rfl) (fun l vs W => (S13 w b (.slice vo ws.length vc) ws P bs) (fun i => l.getD i false) vs W) (⟨fun _ => ⟨fun _ => ⟨rfl, rfl, rfl, Nat.le_refl _, fun _ _ _ => rfl⟩, (fun h => by cases h), (fun h => by cases h), (fun h => by cases h)⟩, fun h => by cases h⟩) ?_ ?_)
  · intro ix o' hi ho a' w2 l vs hls hlf hJ hout hin hdep hnot
    match ix, ho with
    | 0, ho =>
      obtain rfl := Option.some.inj ho
      have e0 := hout 0 (by kernel_rfl)
      replace e0 : a'.eval (.tmp 0) = _ := e0.trans rfl
      exact wp_move (.tmp 0) rfl _ e0 ⟨_, rfl, told_of rfl, keepG (St := (S13 w b (.slice vo ws.length vc) ws P bs)) [6, 7, 8, 11] S13.loc (by omega) (by decide) hJ⟩
    | 1, ho =>
      obtain rfl := Option.some.inj ho
      have e0 := hout 0 (by kernel_rfl)
      replace e0 : a'.eval (.tmp 0) = _ := e0.trans rfl
      exact wp_move (.tmp 0) rfl _ e0 ⟨_, rfl, told_of rfl, keepG (St := (S13 w b (.slice vo ws.length vc) ws P bs)) [6, 7, 8, 11] S13.loc (by omega) (by decide) hJ⟩
    | 2, ho =>
      obtain rfl := Option.some.inj ho
      have e0 : a'.eval (.tmp 9) = P0 b := by have h9 := hin 1 9 (by kernel_rfl) (by kernel_rfl); exact h9.1.trans (told_is _ h9.2 rfl)
      exact o_nil (.tmp 9) rfl _ e0 ⟨_, rfl, told_of rfl, keepG (St := (S13 w b (.slice vo ws.length vc) ws P bs)) [6, 7, 8, 11] S13.loc (by omega) (by decide) hJ⟩
    | 3, ho =>
      obtain rfl := Option.some.inj ho
      have e0 : a'.eval (.tmp 10) = P0 b := by have h9 := hin 2 10 (by kernel_rfl) (by kernel_rfl); exact h9.1.trans (told_is _ h9.2 rfl)
      exact o_fld32_3 (.tmp 10) rfl _ e0 ⟨_, rfl, told_of rfl, keepG (St := (S13 w b (.slice vo ws.length vc) ws P bs)) [6, 7, 8, 11] S13.loc (by omega) (by decide) hJ⟩
    | 4, ho =>
      obtain rfl := Option.some.inj ho
      have e0 : a'.eval (.tmp 11) = .pointer (some ⟨b, 3, none⟩) := by have h9 := hin 3 11 (by kernel_rfl) (by kernel_rfl); exact h9.1.trans (told_is _ h9.2 rfl)
      exact o_load30 (.tmp 11) rfl _ _ e0 (fits_cell ((unhide HH).kept ((hJ.1 (hnot 11 (by kernel_rfl))).1 (hnot 8 (by kernel_rfl))) (by simp)) 3 _ rfl) ⟨_, rfl, told_of rfl, keepG (St := (S13 w b (.slice vo ws.length vc) ws P bs)) [6, 7, 8, 11] S13.loc (by omega) (by decide) hJ⟩
    | 5, ho =>
      obtain rfl := Option.some.inj ho
      have e0 := hout 1 (by kernel_rfl)
      replace e0 : a'.eval (.tmp 1) = _ := e0.trans rfl
      exact wp_move (.tmp 1) rfl _ e0 ⟨_, rfl, told_of rfl, keepG (St := (S13 w b (.slice vo ws.length vc) ws P bs)) [6, 7, 8, 11] S13.loc (by omega) (by decide) hJ⟩
    | 6, ho =>
      obtain rfl := Option.some.inj ho
      have e0 : a'.eval (.tmp 13) = .slice ao m c := by have h9 := hin 5 13 (by kernel_rfl) (by kernel_rfl); exact h9.1.trans (told_is _ h9.2 rfl)
      have hk0 := ((hJ.1 (hnot 11 (by kernel_rfl))).1 (hnot 8 (by kernel_rfl)))
      refine o_appB (.tmp 13) rfl ao m c bs e0 (unhide HN) ((unhide HV).kept hk0 (fun _ _ _ => by simp)) (unhide HBY) (by have := unhide HM; omega) fun u w3 hB3 hf3 hk3 => ?_
      refine ⟨_, rfl, told_no rfl, nextG (St := (S13 w b (.slice vo ws.length vc) ws P bs)) (by omega) ⟨fun h11 => ⟨fun _ => hk0.trans hk3, fun _ => ⟨hB3, fun k hk => by have := hf3 k hk; have := hk0.size; omega⟩, fun h7 _ => ?_, fun h8 => ?_⟩, fun h11 => ?_⟩⟩
      · have h9 : l.getD 7 false = true := h7; rw [hnot 7 (by kernel_rfl)] at h9; cases h9
      · have h9 : l.getD 8 false = true := h8; rw [hnot 8 (by kernel_rfl)] at h9; cases h9
      · have h9 : l.getD 11 false = true := h11; rw [hnot 11 (by kernel_rfl)] at h9; cases h9
    | 7, ho =>
      obtain rfl := Option.some.inj ho
      have e0 : a'.eval (.tmp 14) = vs 6 := (hin 6 14 (by kernel_rfl) (by kernel_rfl)).1
      have hk0 := ((hJ.1 (hnot 11 (by kernel_rfl))).1 (hnot 8 (by kernel_rfl)))
      obtain ⟨hB6, hf6⟩ := (hJ.1 (hnot 11 (by kernel_rfl))).2.1 (hdep 6 (by kernel_rfl))
      obtain ⟨uo, uc, hu, _, _⟩ := hB6.sl
      refine o_bsS (.tmp 14) rfl uo bs.length uc (e0.trans hu) ?_
      refine ⟨_, rfl, told_no rfl, nextG (St := (S13 w b (.slice vo ws.length vc) ws P bs)) (by omega) ⟨fun h11 => ⟨fun _ => hk0.alloc _, fun _ => ⟨hB6.kept ((Kept.refl [] _).alloc _) (fun _ _ => by simp), hf6⟩, fun _ _ => ⟨w2.heap.size, rfl, ?_⟩, fun h8 => ?_⟩, fun h11 => ?_⟩⟩
      · show Blk _ _ _ [vs 6]; rw [hu]; exact Blk.new w2 33 [Value.slice uo bs.length uc]
      · have h9 : l.getD 8 false = true := h8; rw [hnot 8 (by kernel_rfl)] at h9; cases h9
      · have h9 : l.getD 11 false = true := h11; rw [hnot 11 (by kernel_rfl)] at h9; cases h9
    | 8, ho =>
      obtain rfl := Option.some.inj ho
      have e0 : a'.eval (.tmp 12) = .slice vo ws.length vc := by have h9 := hin 4 12 (by kernel_rfl) (by kernel_rfl); exact h9.1.trans (told_is _ h9.2 rfl)
      have e1 : a'.eval (.tmp 15) = vs 7 := (hin 7 15 (by kernel_rfl) (by kernel_rfl)).1
      have hk0 := (hJ.1 (hnot 11 (by kernel_rfl))).1 hlf
      obtain ⟨hB6, hf6⟩ := (hJ.1 (hnot 11 (by kernel_rfl))).2.1 (hdep 6 (by kernel_rfl))
      obtain ⟨q, hq, hBq⟩ := (hJ.1 (hnot 11 (by kernel_rfl))).2.2.1 (hdep 7 (by kernel_rfl)) hlf
      refine o_appO (.tmp 12) (.tmp 15) rfl (.slice vo ws.length vc) ws e0 ((unhide HO).kept hk0 (by simp)) q (vs 6) (e1.trans hq) hBq hB6.one (by have := unhide HL; omega) fun v' w' h1 h2 h3 => ?_
      refine ⟨_, rfl, told_no rfl, nextG (St := (S13 w b (.slice vo ws.length vc) ws P bs)) (by omega) ⟨fun h11 => ⟨(fun h => by cases h), fun _ => ⟨hB6.kept h2 (fun k hk hm => ?_), hf6⟩, (fun _ h => by cases h), fun _ => ⟨h1, (hk0.mono (by simp)).trans h2, fun k hk => (h3 k hk).imp id (fun x => by have := hk0.size; omega)⟩⟩, fun h11 => ?_⟩⟩
      · have h9 := hf6 k hk; have h8 := unhide HVL k (by simpa using hm); omega
      · have h9 : l.getD 11 false = true := h11; rw [hnot 11 (by kernel_rfl)] at h9; cases h9
    | 9, ho =>
      obtain rfl := Option.some.inj ho
      have e0 : a'.eval (.tmp 8) = P0 b := by have h9 := hin 0 8 (by kernel_rfl) (by kernel_rfl); exact h9.1.trans (told_is _ h9.2 rfl)
      exact o_nil (.tmp 8) rfl _ e0 ⟨_, rfl, told_of rfl, keepG (St := (S13 w b (.slice vo ws.length vc) ws P bs)) [6, 7, 8, 11] S13.loc (by omega) (by decide) hJ⟩
    | 10, ho =>
      obtain rfl := Option.some.inj ho
      have e0 : a'.eval (.tmp 17) = P0 b := by have h9 := hin 9 17 (by kernel_rfl) (by kernel_rfl); exact h9.1.trans (told_is _ h9.2 rfl)
      exact o_fld32_3 (.tmp 17) rfl _ e0 ⟨_, rfl, told_of rfl, keepG (St := (S13 w b (.slice vo ws.length vc) ws P bs)) [6, 7, 8, 11] S13.loc (by omega) (by decide) hJ⟩
    | 11, ho =>
      obtain rfl := Option.some.inj ho
      have e0 : a'.eval (.tmp 18) = .pointer (some ⟨b, 3, none⟩) := by have h9 := hin 10 18 (by kernel_rfl) (by kernel_rfl); exact h9.1.trans (told_is _ h9.2 rfl)
      have e1 : a'.eval (.tmp 16) = vs 8 := (hin 8 16 (by kernel_rfl) (by kernel_rfl)).1
      obtain ⟨hB6, hf6⟩ := (hJ.1 hlf).2.1 (hdep 6 (by kernel_rfl))
      obtain ⟨h1, h2, h3⟩ := (hJ.1 hlf).2.2.2 (hdep 8 (by kernel_rfl))
      have hB9 := (unhide HH).kept h2 (unhide HNL)
      obtain ⟨ao9, c9, e9, _, _⟩ := h1.sl
      refine o_st30 (.tmp 18) (.tmp 16) rfl rfl b 3 32 _ (vs 8) e0 e1 ⟨ao9, _, c9, e9⟩ hB9 (by simp [Ps.R]) fun W hBW hkW => ⟨_, rfl, told_no rfl, nextG (St := (S13 w b (.slice vo ws.length vc) ws P bs)) (by omega) ⟨(fun h => by cases h), fun _ => ⟨vs 8, vs 6, h1.kept hkW (fun k hk hm => ?_), hBW, (h2.mono (fun k hk => List.mem_cons_of_mem _ hk)).trans (hkW.mono (by simp)), h3, hB6.kept hkW (fun k hk hm => ?_), hf6⟩⟩⟩
      · simp at hm; subst hm; obtain ⟨cs, hc⟩ := h1.block k hk; unfold Blk at hB9; rw [hB9] at hc; injection hc with hc; injection hc with _ hc; exact absurd hc (by decide)
      · simp at hm; subst hm; obtain ⟨cs, hc⟩ := hB6.block k hk; unfold Blk at hB9; rw [hB9] at hc; injection hc with hc; injection hc with _ hc; exact absurd hc (by decide)
  intro l vs w9 hl hJ htold
  have t0 : vs 0 = P0 b := told_is _ (htold 0 (by decide)) rfl
  have t1 : vs 1 = P0 b := told_is _ (htold 1 (by decide)) rfl
  have t2 : vs 2 = P0 b := told_is _ (htold 2 (by decide)) rfl
  have t3 : vs 3 = .pointer (some ⟨b, 3, none⟩) := told_is _ (htold 3 (by decide)) rfl
  have t4 : vs 4 = .slice vo ws.length vc := told_is _ (htold 4 (by decide)) rfl
  have t5 : vs 5 = .slice ao m c := told_is _ (htold 5 (by decide)) rfl
  have t9 : vs 9 = P0 b := told_is _ (htold 9 (by decide)) rfl
  have t10 : vs 10 = .pointer (some ⟨b, 3, none⟩) := told_is _ (htold 10 (by decide)) rfl
  rw [show (List.range 12).map vs = [vs 0, vs 1, vs 2, vs 3, vs 4, vs 5, vs 6, vs 7, vs 8, vs 9, vs 10, vs 11] from rfl]
  simp only [t0, t1, t2, t3, t4, t5, t9, t10, putAll, Act.put, List.setIfInBounds_toArray, List.set_cons_succ, List.set_cons_zero]
  clear t0 t1 t2 t3 t4 t5 t9 t10 htold
  obtain ⟨v', u, h1, h2, h3, h4, h5, h6⟩ := hJ.2 (hl 11 (by decide))
  have HR := hide (rsend_sx (unhide HS) (unhide HBY) (by rw [unhide HML]; exact unhide HM) (unhide HLL) h1 h2 h3 h4 h5 h6)
  clear hJ hl h1 h2 h3 h4 h5 h6
  go_wp2_with fail
  go_ret
  exact ⟨rfl, v', _, unhide HR⟩
theorem rsend_arg (W : World) (b : Nat) (v : Value) (ws : List Value) (P : Ps) (y : By) (B : Nat) (h : Rx W b v ws P) (hy : y.Ok W B) (hl : P.sent.length < 1000) : Calls Try.prog 13 #[P0 b, y.v] W fun e W' => e = .returned (.int .i64 (P.send y.bs).2) ∧ ∃ v' ws', RR W b v ws W' v' ws' (P.send y.bs).1 := by
  have hlen := hy.len
  unfold Ps.send
  by_cases hm : 256 < y.bs.length
  · rw [if_pos hm]
    refine (rsend_no b y.ao y.m y.c W (by omega)).mono ?_
    rintro e W' ⟨rfl, rfl⟩
    exact ⟨rfl, v, ws, RR.same h (Kept.refl _ _)⟩
  · rw [if_neg hm]
    refine (rsend_yes b v ws P y.ao y.m y.c y.bs W h hy.vals hy.nil hy.byte (by omega) hl).mono ?_
    rintro e W' ⟨rfl, v', ws', hR⟩
    exact ⟨rfl, v', ws', hR⟩

end Go.Proofs.Ythbgnpbkdeofcaa
