/-
  A pool: finding, looking, getting, dropping, pinning.
-/
import Derived.Test.YtgnafbohikbpfaaQd
namespace Go.Proofs.Ytgnafbohikbpfaa
set_option maxRecDepth 100000
set_option linter.unusedSimpArgs false
open Go.RowKit


def Po.up (P : Po) (i : Nat) (x : Pl) : Po := ⟨P.m, P.h, upd P.S i x⟩
/-- The same frames. -/
structure Lk (P Q : Po) : Prop where
  m : Q.m = P.m
  f : ∀ j, (Q.S j).f = (P.S j).f
  z : ∀ j, (P.S j).f.md = 0 → Q.S j = P.S j
  h : Q.h < Q.m
theorem Lk.busy {P Q : Po} (h : Lk P Q) (j : Nat) : Q.busy j ↔ P.busy j := by unfold Po.busy; rw [h.m, h.f]
theorem Lk.ok {P Q : Po} (h : Lk P Q) (k : P.Ok) : Q.Ok := by
  refine ⟨by rw [h.m]; exact k.m, h.h, fun i hi => ?_, fun i hb => ?_, fun i j hi hj e => ?_, fun i hi => ?_, fun i hb => ?_⟩
  · rw [h.m] at hi
    have e := k.z i hi
    rw [h.z i (by rw [e]; rfl), e]
  · rw [h.f]; exact k.pg i ((h.busy i).1 hb)
  · rw [h.f, h.f] at e; exact k.un i j ((h.busy i).1 hi) ((h.busy j).1 hj) e
  · rw [h.f] at hi; rw [h.z i hi]; exact k.fr i hi
  · rw [h.f]; exact k.md i ((h.busy i).1 hb)
theorem Lk.wh {P Q : Po} (h : Lk P Q) {L : List En} (k : Wh P L) : Wh Q L := by
  refine ⟨fun l hl => ?_, fun i hb => ?_, k.nd, by rw [k.ln, h.m]; exact cntB_same _ (fun j _ => by rw [h.f])⟩
  · obtain ⟨i, h1, h2, h3⟩ := k.at_ l hl
    exact ⟨i, (h.busy i).2 h1, h2, by rw [h.f]; exact h3⟩
  · obtain ⟨l, h1, h2, h3⟩ := k.has i ((h.busy i).1 hb)
    exact ⟨l, h1, by rw [h.f]; exact h2, h3⟩
theorem Lk.up {P : Po} (k : P.Ok) {i : Nat} {x : Pl} (hx : x.f = (P.S i).f) (hi : ¬ (P.S i).f.md = 0) : Lk P (P.up i x) := by
  refine ⟨rfl, fun j => ?_, fun j hj => ?_, k.h⟩
  · show (upd P.S i x j).f = _
    by_cases e : j = i
    · subst e; rw [upd_same]; exact hx
    · rw [upd_ne _ _ e]
  · show upd P.S i x j = _
    have : j ≠ i := fun e => hi (by rw [← e]; exact hj)
    rw [upd_ne _ _ this]
theorem Lk.findTo {P Q : Po} (h : Lk P Q) (pg : Int) : ∀ n, findTo Q pg n = findTo P pg n
  | 0 => rfl
  | n + 1 => by unfold Ytgnafbohikbpfaa.findTo; rw [Lk.findTo h pg n, h.f]
theorem Lk.find {P Q : Po} (h : Lk P Q) (pg : Int) : Q.find pg = P.find pg := by unfold Po.find; rw [h.m, h.findTo]
section
variable {ops : Array Oper} {rest : List Oper} {op o : Oper} {a : Act} {w : World} {K : Act → World → Prop} {Q : Exit → Act → World → Prop} {mb : Nat} {L : List En}
theorem o_look (m x : Operand) (ho : o.op = .lookup 68 m x true) (mb : Nat) (L : List En) (k : Int) (hm : a.eval m = .map (some mb)) (hx : a.eval x = .int .i64 k) (hM : MapAt w mb L)
    (h : K (a.put o.dst (.tuple #[.int .i64 (lookV k L), .bool (placeOf k L 0).isSome])) w) : o.wp Try.prog a w K Q := by
  unfold Oper.wp execOp
  simp only [ho, hm, hx, Sem.run_bind, run_look w mb L k hM, Result.andThen_ok]
  exact h
theorem wpLook (hgd : op.guard = none) (m x : Operand) (ho : op.op = .lookup 68 m x true) (mb : Nat) (L : List En) (k u : Int) (f : Bool) (hu : lookV k L = u) (hf : (placeOf k L 0).isSome = f) (hm : a.eval m = .map (some mb)) (hx : a.eval x = .int .i64 k) (hM : MapAt w mb L)
    (h : wpList Try.prog ops Q rest (a.put op.dst (.tuple #[.int .i64 u, .bool f])) w) : wpList Try.prog ops Q (op :: rest) a w := by
  subst hu hf
  exact wpList_plain hgd fun _ hK => o_look m x ho mb L k hm hx hM (hK _ _ h)
theorem o_upd (m x y : Operand) (ho : o.op = .mapUpdate 68 m x y) (_ : o.dst = none) (mb : Nat) (L : List En) (l : En) (hm : a.eval m = .map (some mb)) (hx : a.eval x = .int .i64 l.k) (hy : a.eval y = .int .i64 l.v) (hM : MapAt w mb L) (hn : placeOf l.k L 0 = none)
    (h : ∀ W, MapAt W mb (L ++ [l]) → Kept [mb] w W → K (a.put o.dst undef) W) : o.wp Try.prog a w K Q := by
  obtain ⟨w', hr, h1, h2⟩ := run_upd w mb L l hM hn
  unfold Oper.wp execOp
  simp only [ho, hm, hx, hy, Sem.run_bind, hr, Result.andThen_ok, Sem.run_pure]
  exact h w' h1 h2
theorem o_del (m x : Operand) (ho : o.op = .call { callee := .builtin .delete, args := #[m, x], argTypes := #[68, 3] }) (mb : Nat) (L : List En) (k : Int) (i : Nat) (l : En) (hm : a.eval m = .map (some mb)) (hx : a.eval x = .int .i64 k) (hM : MapAt w mb L) (hn : placeOf k L 0 = some (i, l))
    (h : ∀ W, MapAt W mb (L.eraseIdx i) → Kept [mb] w W → K (a.put o.dst (.tuple #[])) W) : o.wp Try.prog a w K Q := by
  obtain ⟨w', hr, h1, h2⟩ := run_del w mb L k i l hM hn
  have hr' : (Builtin.delete_ #[68, 3] o.type #[.map (some mb), .int .i64 k]).run Try.prog w = .ok (.tuple #[]) w' := hr
  unfold Oper.wp execOp
  simp only [ho, resolve, invoke, builtin, Sem.run_bind, Sem.run_pure, Result.andThen_ok, List.map_toArray, List.map_cons, List.map_nil, hm, hx, hr']
  exact h w' h1 h2
theorem wpDel (hgd : op.guard = none) (m x : Operand) (ho : op.op = .call { callee := .builtin .delete, args := #[m, x], argTypes := #[68, 3] }) (mb : Nat) (L : List En) (k : Int) (i : Nat) (l : En) (hm : a.eval m = .map (some mb)) (hx : a.eval x = .int .i64 k) (hM : MapAt w mb L) (hn : placeOf k L 0 = some (i, l))
    (h : ∀ W, MapAt W mb (L.eraseIdx i) → Kept [mb] w W → wpList Try.prog ops Q rest (a.put op.dst (.tuple #[])) W) : wpList Try.prog ops Q (op :: rest) a w :=
  wpList_plain hgd fun _ hK => o_del m x ho mb L k i l hm hx hM hn (fun W h1 h2 => hK _ _ (h W h1 h2))
theorem wpAlloc39 (d : Nat) (hd : op.dst = some d) (hgd : op.guard = none) (ho : op.op = .alloc 39)
    (h : ∀ W g zc, g = w.heap.size → Blk W g 39 zc → zc.length = 102 → Kept [] w W → wpList Try.prog ops Q rest (a.put op.dst (P0 g)) W) : wpList Try.prog ops Q (op :: rest) a w :=
  wpAllocV fr0.C zero39 d hd hgd ho (fun W hW => by subst hW; exact h _ _ _ rfl (Blk.new w 39 _) fr0.len ((Kept.refl _ _).alloc _))
end
variable {b mb : Nat} {P : Po} {L : List En}
/-- Where a page's frame is: a pointer, and an error. -/
def Po.fnd (P : Po) (b : Nat) (pg : Int) : Value := match P.find pg with
  | none => .tuple #[.pointer none, .int .i64 6]
  | some i => .tuple #[.pointer (some ⟨b, i * 104, none⟩), .int .i64 0]
theorem find42 (w : World) (h : Pg w b mb P L) (pg : Int) : Calls Try.prog 42 #[P0 b, .int .i64 pg] w fun e w' => e = .returned (P.fnd b pg) ∧ w' = w := by
  have P41 := hide (none41 w h)
  have cw := h.cw
  have hl := h.wh.look h.ok pg
  have HM := hide h.map
  unfold Po.fnd
  cases hf : P.find pg with
  | none =>
    rw [hf] at hl
    have H1 : Hid (lookV pg L = 0) := by show _ = _; unfold lookV; rw [hl]
    have H2 : Hid ((placeOf pg L 0).isSome = false) := by show _ = _; rw [hl]; rfl
    clear hl h hf
    go_enter Try.func42, Try.ntmps42
    go_wp2_with (
      first
      | (go_at_call 41
         refine (unhide P41).mono ?_
         rintro e W9 ⟨rfl, q9⟩
         replace q9 := q9.symm
         subst q9
         clear P41
         refine Stp.go ?_))
    constructor
    go_wp2_with (
      first
      | (refine wpLd68 rfl (.tmp 13) rfl ⟨b, 1666, none⟩ (.map (some mb)) rfl cw ?_
         refine Stp.go ?_))
    constructor
    go_wp2_with (
      first
      | (refine wpLook rfl (.tmp 14) (.tmp 15) rfl mb L pg 0 false (unhide H1) (unhide H2) rfl rfl (unhide HM) ?_
         refine Stp.go ?_))
    constructor
    go_wp2_with fail
    go_ret2
    exact ⟨rfl, rfl⟩
  | some i =>
    rw [hf] at hl
    obtain ⟨j, l, h1, h2, _⟩ := hl
    have hi16 : i < 16 := by have := (Po.find_some hf).1.1; have := h.ok.m; omega
    have hiI : (i : Int) < 16 := by omega
    have H1 : Hid (lookV pg L = (i : Int)) := by show _ = _; unfold lookV; rw [h1]; exact h2
    have H2 : Hid ((placeOf pg L 0).isSome = true) := by show _ = _; rw [h1]; rfl
    clear h1 h2 h hf
    go_enter Try.func42, Try.ntmps42
    go_wp2_with (
      first
      | (go_at_call 41
         refine (unhide P41).mono ?_
         rintro e W9 ⟨rfl, q9⟩
         replace q9 := q9.symm
         subst q9
         clear P41
         refine Stp.go ?_))
    constructor
    go_wp2_with (
      first
      | (refine wpLd68 rfl (.tmp 13) rfl ⟨b, 1666, none⟩ (.map (some mb)) rfl cw ?_
         refine Stp.go ?_))
    constructor
    go_wp2_with (
      first
      | (refine wpLook rfl (.tmp 14) (.tmp 15) rfl mb L pg (i : Int) true (unhide H1) (unhide H2) rfl rfl (unhide HM) ?_
         refine Stp.go ?_))
    constructor
    go_wp2_with fail
    go_ret2
    exact ⟨rfl, rfl⟩
theorem find42_z (w : World) (v : Value) (h : Nil w v) (pg : Int) : Calls Try.prog 42 #[v, .int .i64 pg] w fun e w' => e = .returned (.tuple #[.pointer none, .int .i64 1]) ∧ w' = w := by
  have P41 := hide (none41_z w v h)
  clear h
  go_enter Try.func42, Try.ntmps42
  go_wp2_with (
    first
    | (go_at_call 41
       refine (unhide P41).mono ?_
       rintro e W9 ⟨rfl, q9⟩
       replace q9 := q9.symm
       subst q9
       clear P41
       refine Stp.go ?_))
  constructor
  go_wp2_with fail
  go_ret2
  exact ⟨rfl, rfl⟩
theorem res15 (w : World) (z : Nat) (vs : List Value) (e : Bool) (tmps : Array Value) (h4 : tmps[4]?.getD undef = P0 z) (h5 : tmps[5]?.getD undef = .bool e) (hl : vs.length = 102) (hb : Blk w z 39 vs) : (results Try.f15 tmps).run Try.prog w = .ok (.tuple #[aggV vs, .bool e]) w := by
  have := loadV row39 hl hb
  simp [results, Try.results15, h4, h5, this, asAddr]
theorem res18 (w : World) (z : Nat) (vs : List Value) (e : Int) (tmps : Array Value) (h4 : tmps[4]?.getD undef = P0 z) (h5 : tmps[5]?.getD undef = .int .i64 e) (hl : vs.length = 102) (hb : Blk w z 39 vs) : (results Try.f18 tmps).run Try.prog w = .ok (.tuple #[aggV vs, .int .i64 e]) w := by
  have := loadV row39 hl hb
  simp [results, Try.results18, h4, h5, this, asAddr]
theorem res22 (w : World) (z : Nat) (vs : List Value) (e : Int) (tmps : Array Value) (h4 : tmps[4]?.getD undef = P0 z) (h5 : tmps[5]?.getD undef = .int .i64 e) (hl : vs.length = 102) (hb : Blk w z 39 vs) : (results Try.f22 tmps).run Try.prog w = .ok (.tuple #[aggV vs, .int .i64 e]) w := by
  have := loadV row39 hl hb
  simp [results, Try.results22, h4, h5, this, asAddr]
theorem look_err (w : World) (v : Value) (pg c : Int) (hc : c = 1 ∨ c = 6) (P42 : ∀ W, Kept [] w W → Calls Try.prog 42 #[v, .int .i64 pg] W fun e w' => e = .returned (.tuple #[.pointer none, .int .i64 c]) ∧ w' = W) : Calls Try.prog 15 #[v, .int .i64 pg] w fun e w' => e = .returned (.tuple #[aggV fr0.C, .bool false]) ∧ Kept [] w w' := by
  have HP := hide P42
  have HK := hide (Kept.refl [] w)
  have hc2 : (c == 0) = false := by rcases hc with rfl | rfl <;> rfl
  have hc3 : decide (c = 0) = false := by rcases hc with rfl | rfl <;> rfl
  have hc4 : (c != 0) = true := by rcases hc with rfl | rfl <;> rfl
  clear P42 hc
  go_enter Try.func15, Try.ntmps15
  go_wp2_with (
    first
    | (refine wpAlloc39 4 rfl rfl rfl ?_
       intro W1 g zc e1 B1 z1 K1
       have HB := hide B1
       have HZL := hide z1
       have HG : Hid (w.heap.size ≤ g) := by have := (unhide HK).size; show _ ≤ _; omega
       replace HK := hide ((unhide HK).trans K1)
       clear e1 B1 z1 K1
       refine Stp.go ?_))
  constructor
  go_wp2_with (
    first
    | (go_at_call 42
       refine (unhide HP _ (unhide HK)).mono ?_
       rintro e W9 ⟨rfl, q9⟩
       replace q9 := q9.symm
       subst q9
       clear HP
       refine Stp.go ?_))
  constructor
  go_wp2_with (
    first
    | (refine wpBuildZ fr0.C build39 rfl rfl ?_
       refine Stp.go ?_))
  constructor
  go_wp2_with (
    first
    | (refine wpStoreA row39 rfl (.tmp 4) (.tmp 16) rfl g 0 fr0.C rfl rfl fr0.len fr0.one ((unhide HB).there (by have := unhide HZL; omega)) ?_
       refine Stp.go ?_))
  constructor
  go_wp2_with fail
  have g4 := (unhide HB).put (vs := fr0.C) (by rw [unhide HZL, fr0.len])
  refine bodyPost_ret (res15 _ _ _ _ _ rfl rfl fr0.len g4) rfl ⟨rfl, (unhide HK).setCells _ _ (fun hl => absurd hl (Nat.not_lt.2 (unhide HG)))⟩
theorem get_err (w : World) (v : Value) (pg c : Int) (hc : c = 1 ∨ c = 6) (P42 : ∀ W, Kept [] w W → Calls Try.prog 42 #[v, .int .i64 pg] W fun e w' => e = .returned (.tuple #[.pointer none, .int .i64 c]) ∧ w' = W) : Calls Try.prog 18 #[v, .int .i64 pg] w fun e w' => e = .returned (.tuple #[aggV fr0.C, .int .i64 c]) ∧ Kept [] w w' := by
  have HP := hide P42
  have HK := hide (Kept.refl [] w)
  have hc2 : (c == 0) = false := by rcases hc with rfl | rfl <;> rfl
  have hc3 : decide (c = 0) = false := by rcases hc with rfl | rfl <;> rfl
  have hc4 : (c != 0) = true := by rcases hc with rfl | rfl <;> rfl
  clear P42 hc
  go_enter Try.func18, Try.ntmps18
  go_wp2_with (
    first
    | (refine wpAlloc39 4 rfl rfl rfl ?_
       intro W1 g zc e1 B1 z1 K1
       have HB := hide B1
       have HZL := hide z1
       have HG : Hid (w.heap.size ≤ g) := by have := (unhide HK).size; show _ ≤ _; omega
       replace HK := hide ((unhide HK).trans K1)
       clear e1 B1 z1 K1
       refine Stp.go ?_))
  constructor
  go_wp2_with (
    first
    | (go_at_call 42
       refine (unhide HP _ (unhide HK)).mono ?_
       rintro e W9 ⟨rfl, q9⟩
       replace q9 := q9.symm
       subst q9
       clear HP
       refine Stp.go ?_))
  constructor
  go_wp2_with (
    first
    | (refine wpBuildZ fr0.C build39 rfl rfl ?_
       refine Stp.go ?_))
  constructor
  go_wp2_with (
    first
    | (refine wpStoreA row39 rfl (.tmp 4) (.tmp 16) rfl g 0 fr0.C rfl rfl fr0.len fr0.one ((unhide HB).there (by have := unhide HZL; omega)) ?_
       refine Stp.go ?_))
  constructor
  go_wp2_with fail
  have g4 := (unhide HB).put (vs := fr0.C) (by rw [unhide HZL, fr0.len])
  refine bodyPost_ret (res18 _ _ _ _ _ rfl rfl fr0.len g4) rfl ⟨rfl, (unhide HK).setCells _ _ (fun hl => absurd hl (Nat.not_lt.2 (unhide HG)))⟩
theorem drop_err (w : World) (v : Value) (pg c : Int) (hc : c = 1 ∨ c = 6) (P42 : ∀ W, Kept [] w W → Calls Try.prog 42 #[v, .int .i64 pg] W fun e w' => e = .returned (.tuple #[.pointer none, .int .i64 c]) ∧ w' = W) : Calls Try.prog 22 #[v, .int .i64 pg] w fun e w' => e = .returned (.tuple #[aggV fr0.C, .int .i64 c]) ∧ Kept [] w w' := by
  have HP := hide P42
  have HK := hide (Kept.refl [] w)
  have hc2 : (c == 0) = false := by rcases hc with rfl | rfl <;> rfl
  have hc3 : decide (c = 0) = false := by rcases hc with rfl | rfl <;> rfl
  have hc4 : (c != 0) = true := by rcases hc with rfl | rfl <;> rfl
  clear P42 hc
  go_enter Try.func22, Try.ntmps22
  go_wp2_with (
    first
    | (refine wpAlloc39 4 rfl rfl rfl ?_
       intro W1 g zc e1 B1 z1 K1
       have HB := hide B1
       have HZL := hide z1
       have HG : Hid (w.heap.size ≤ g) := by have := (unhide HK).size; show _ ≤ _; omega
       replace HK := hide ((unhide HK).trans K1)
       clear e1 B1 z1 K1
       refine Stp.go ?_))
  constructor
  go_wp2_with (
    first
    | (go_at_call 42
       refine (unhide HP _ (unhide HK)).mono ?_
       rintro e W9 ⟨rfl, q9⟩
       replace q9 := q9.symm
       subst q9
       clear HP
       refine Stp.go ?_))
  constructor
  go_wp2_with (
    first
    | (refine wpBuildZ fr0.C build39 rfl rfl ?_
       refine Stp.go ?_))
  constructor
  go_wp2_with (
    first
    | (refine wpStoreA row39 rfl (.tmp 4) (.tmp 17) rfl g 0 fr0.C rfl rfl fr0.len fr0.one ((unhide HB).there (by have := unhide HZL; omega)) ?_
       refine Stp.go ?_))
  constructor
  go_wp2_with fail
  have g4 := (unhide HB).put (vs := fr0.C) (by rw [unhide HZL, fr0.len])
  refine bodyPost_ret (res22 _ _ _ _ _ rfl rfl fr0.len g4) rfl ⟨rfl, (unhide HK).setCells _ _ (fun hl => absurd hl (Nat.not_lt.2 (unhide HG)))⟩
theorem pins_err (w : World) (v : Value) (pg c : Int) (hc : c = 1 ∨ c = 6) (P42 : ∀ W, Kept [] w W → Calls Try.prog 42 #[v, .int .i64 pg] W fun e w' => e = .returned (.tuple #[.pointer none, .int .i64 c]) ∧ w' = W) : Calls Try.prog 16 #[v, .int .i64 pg] w fun e w' => e = .returned (.int .i64 0) ∧ Kept [] w w' := by
  have HP := hide P42
  have HK := hide (Kept.refl [] w)
  have hc2 : (c == 0) = false := by rcases hc with rfl | rfl <;> rfl
  have hc3 : decide (c = 0) = false := by rcases hc with rfl | rfl <;> rfl
  have hc4 : (c != 0) = true := by rcases hc with rfl | rfl <;> rfl
  clear P42 hc
  go_enter Try.func16, Try.ntmps16
  go_wp2_with (
    first
    | (go_at_call 42
       refine (unhide HP _ (unhide HK)).mono ?_
       rintro e W9 ⟨rfl, q9⟩
       replace q9 := q9.symm
       subst q9
       clear HP
       refine Stp.go ?_))
  constructor
  go_wp2_with fail
  go_ret
  exact ⟨rfl, unhide HK⟩
theorem pin_err (w : World) (v : Value) (pg c : Int) (hc : c = 1 ∨ c = 6) (P42 : ∀ W, Kept [] w W → Calls Try.prog 42 #[v, .int .i64 pg] W fun e w' => e = .returned (.tuple #[.pointer none, .int .i64 c]) ∧ w' = W) : Calls Try.prog 21 #[v, .int .i64 pg] w fun e w' => e = .returned (.int .i64 c) ∧ Kept [] w w' := by
  have HP := hide P42
  have HK := hide (Kept.refl [] w)
  have hc2 : (c == 0) = false := by rcases hc with rfl | rfl <;> rfl
  have hc3 : decide (c = 0) = false := by rcases hc with rfl | rfl <;> rfl
  have hc4 : (c != 0) = true := by rcases hc with rfl | rfl <;> rfl
  clear P42 hc
  go_enter Try.func21, Try.ntmps21
  go_wp2_with (
    first
    | (go_at_call 42
       refine (unhide HP _ (unhide HK)).mono ?_
       rintro e W9 ⟨rfl, q9⟩
       replace q9 := q9.symm
       subst q9
       clear HP
       refine Stp.go ?_))
  constructor
  go_wp2_with fail
  go_ret
  exact ⟨rfl, unhide HK⟩
theorem unpin_err (w : World) (v : Value) (pg c : Int) (hc : c = 1 ∨ c = 6) (P42 : ∀ W, Kept [] w W → Calls Try.prog 42 #[v, .int .i64 pg] W fun e w' => e = .returned (.tuple #[.pointer none, .int .i64 c]) ∧ w' = W) : Calls Try.prog 26 #[v, .int .i64 pg] w fun e w' => e = .returned (.int .i64 c) ∧ Kept [] w w' := by
  have HP := hide P42
  have HK := hide (Kept.refl [] w)
  have hc2 : (c == 0) = false := by rcases hc with rfl | rfl <;> rfl
  have hc3 : decide (c = 0) = false := by rcases hc with rfl | rfl <;> rfl
  have hc4 : (c != 0) = true := by rcases hc with rfl | rfl <;> rfl
  clear P42 hc
  go_enter Try.func26, Try.ntmps26
  go_wp2_with (
    first
    | (go_at_call 42
       refine (unhide HP _ (unhide HK)).mono ?_
       rintro e W9 ⟨rfl, q9⟩
       replace q9 := q9.symm
       subst q9
       clear HP
       refine Stp.go ?_))
  constructor
  go_wp2_with fail
  go_ret
  exact ⟨rfl, unhide HK⟩

end Go.Proofs.Ytgnafbohikbpfaa
