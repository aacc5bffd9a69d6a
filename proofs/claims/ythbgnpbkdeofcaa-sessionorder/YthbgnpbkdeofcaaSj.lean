/-
  Come.
-/
import Derived.Test.YthbgnpbkdeofcaaSi
import Derived.BigQuiet
namespace Go.Proofs.Ythbgnpbkdeofcaa
set_option maxRecDepth 100000
open Go.RowKit

section
variable {ops : Array Oper} {rest : List Oper} {op : Oper} {a : Act} {w : World} {Q : Exit → Act → World → Prop}
theorem wpLoadG {T n : Nat} (hT : Row T n) (hw : Region.wanted op (yielded ops a.tmps) = true) (x : Operand) (ho : op.op = .load T x) (b o : Nat) (hx : a.eval x = .pointer (some ⟨b, o, none⟩)) (vs : List Value) (hl : vs.length = n) (hA : w.rangeAt b o vs)
    (h : wpList Try.prog ops Q rest (a.put op.dst (aggV vs)) w) : wpList Try.prog ops Q (op :: rest) a w :=
  BigFrame.wpList_want hw fun _ hK => wp_loadA hT x ho b o hx vs hl hA (hK _ _ h)
end
def Ps.owe (P : Ps) : Ps := { P with owes := true }
def Ps.take (P : Ps) (s : Int) : Ps := { P with got := s, owes := true }
/-- Come, plainly. -/
def Ps.come (P : Ps) (d : Dg) : Ps × Option (List Int) := if P.no d = true then (P, none) else if d.seq = 0 then (P.forget d.ack.toNat, none) else if d.seq = P.got + 1 then ((P.forget d.ack.toNat).take d.seq, some d.bs) else ((P.forget d.ack.toNat).owe, none)
theorem no_parts {P : Ps} {d : Dg} (h : P.no d = false) : d.fr = P.oth ∧ d.to = P.me ∧ d.vw = P.view ∧ (0 ≤ d.seq ∧ d.seq ≤ 4611686018427387904) ∧ (0 ≤ d.ack ∧ d.ack ≤ 4611686018427387904) ∧ d.ack ≤ P.sent.length ∧ (d.seq = 0 → d.bs = []) ∧ d.bs.length ≤ 256 := by
  unfold Ps.no numB at h
  simp only [Bool.or_eq_false_iff, Bool.not_eq_false', Bool.and_eq_true, decide_eq_true_eq, decide_eq_false_iff_not, Bool.and_eq_false_iff] at h
  obtain ⟨⟨⟨⟨⟨⟨⟨h1, h2⟩, h3⟩, h4⟩, h5⟩, h6⟩, h7⟩, h8⟩ := h
  refine ⟨h1, h2, h3, h4, h5, by omega, fun hs => ?_, by omega⟩
  rcases h7 with h7 | h7
  · exact absurd hs h7
  · exact List.length_eq_zero_iff.1 (by omega)
/-- What Come leaves. -/
def CR (w : World) (b : Nat) (v : Value) (ws : List Value) (P : Ps) (d : Dg) (e : Ending) (w' : World) : Prop := ∃ v' ws' r, e = .returned (.tuple #[r, .bool (P.come d).2.isSome]) ∧ SR w b v ws w' v' ws' (P.come d).1 ∧ Bod w' r ((P.come d).2.getD []) ∧ ∀ k, r.ownBlock = some k → w.heap.size ≤ k
/-- The same, and what waits waited. -/
def CRs (w : World) (b : Nat) (v : Value) (ws : List Value) (P : Ps) (d : Dg) (e : Ending) (w' : World) : Prop := ∃ v' ws' r, e = .returned (.tuple #[r, .bool (P.come d).2.isSome]) ∧ SR w b v ws w' v' ws' (P.come d).1 ∧ Bod w' r ((P.come d).2.getD []) ∧ (∀ k, r.ownBlock = some k → w.heap.size ≤ k) ∧ ∀ u ∈ ws', u ∈ ws
theorem bod_nil (W : World) : Bod W (.slice none 0 0) [] := ⟨World.ownsRow_nil _ _ _ _, by simp⟩
theorem head_sx {V W : World} {b : Nat} {v : Value} {ws : List Value} {P P' : Ps} (h : Sx V b v ws P) (hok : P'.Ok) (hs : P'.sent = P.sent) (hn : P'.known = P.known) (h1 : Blk W b 68 (P'.C v)) (h2 : Kept [b] V W) : SR V b v ws W v ws P' := by
  have hb : ∀ k, v.ownBlock = some k → k ∉ [b] := fun k e hm => h.hv k e (by simpa using hm)
  refine ⟨⟨hok, h1, h.row.kept h2 hb, by rw [hs, hn]; exact h.len, fun i u bs hu hs' => ?_⟩, h2.mono (by simp), fun k e => .inl e, fun u hu k e => .inl ⟨u, hu, e⟩⟩
  rw [hs, hn] at hs'
  have hB := h.body i u bs hu hs'
  exact hB.kept h2 (fun k e hm => h.away hB k e (by simp at hm; simp [hm]))
theorem owe_ok {P : Ps} (h : P.Ok) : P.owe.Ok := ⟨h.ne, h.known, h.told, h.got, h.many, h.small, h.byte⟩
theorem take_ok {P : Ps} (h : P.Ok) {s : Int} (hs : 0 ≤ s ∧ s ≤ 4611686018427387904) : (P.take s).Ok := ⟨h.ne, h.known, h.told, hs, h.many, h.small, h.byte⟩
theorem come_z (p : Value) (d : Dg) (u : Value) (w : World) (h : Non w p) : Calls Try.prog 20 #[p, aggV (d.C u)] w fun e w' => e = .returned (.tuple #[.slice none 0 0, .bool false]) ∧ Kept [] w w' := by
  have P33 := hide (fun W (hk : Kept [] w W) => non33 p W (by rcases h with rfl | ⟨b, rfl, hz⟩; exact .inl rfl; exact .inr ⟨b, rfl, hz.kept0 hk⟩))
  clear h
  go_enter Try.func20, Try.ntmps20
  go_wp2_with (
    first
    | (refine wpBoxV (by rfl) (.tmp 1) (by rfl) (d.C u) (by kernel_rfl) ?_
       intro w1 z e1 B1 K1
       have HK := hide K1
       clear e1 B1 K1)
    | (go_at_call 33
       refine (unhide P33 _ (unhide HK)).mono ?_
       rintro e V1 ⟨rfl, q1, rfl⟩))
  go_ret2
  exact ⟨rfl, (unhide HK).trans (kept_drewN _ _ _)⟩
set_option maxHeartbeats 2000000 in
theorem come_no (b : Nat) (v : Value) (ws : List Value) (P : Ps) (d : Dg) (uo : Option Addr) (m uc : Nat) (w : World) (h : Sx w b v ws P) (hm : d.bs.length = m) (hno : P.no d = true) : Calls Try.prog 20 #[P0 b, aggV (d.C (.slice uo m uc))] w fun e w' => CRs w b v ws P d e w' := by
  have P38 := hide (fun W (hk : Kept [] w W) => no38 b v ws P d uo uc W (h.kept0 hk))
  have P33 := hide (fun W (hk : Kept [] w W) => none33 b v ws P W (h.kept0 hk))
  rw [hno, hm] at P38
  have HS := hide h
  have hcm : P.come d = (P, none) := by unfold Ps.come; rw [if_pos hno]
  have HC := hide hcm
  clear h hm hno hcm
  go_enter Try.func20, Try.ntmps20
  go_wp2_with (
    first
    | (refine wpBoxV (by rfl) (.tmp 1) (by rfl) (d.C (.slice uo m uc)) (by kernel_rfl) ?_
       intro w1 z e1 B1 K1
       have HE : Hid (w.heap.size ≤ z) := by rw [e1]; exact (Nat.le_refl _ : w.heap.size ≤ w.heap.size)
       have HP := hide B1
       have HK := hide K1
       clear e1 B1 K1)
    | (go_at_call 33
       refine (unhide P33 _ (unhide HK)).mono ?_
       rintro e w2 ⟨rfl, q1, hq⟩
       replace HK : Hid (Kept [] w w2) := (unhide HK).trans (by rw [hq]; exact kept_drewN _ _ _)
       replace HP : Hid (Blk w2 z 35 (d.C (.slice uo m uc))) := by rw [hq]; exact unhide HP
       clear hq P33)
    | (refine wpLoadG row35 (by rfl) (.tmp 3) (by rfl) z 0 (by kernel_rfl) (d.C (.slice uo m uc)) rfl (unhide HP).range ?_)
    | (go_at_call 38
       refine (unhide P38 _ (unhide HK)).mono ?_
       rintro e w3 ⟨rfl, hk3⟩
       replace HP := hide ((unhide HP).kept hk3 (by simp))
       replace HK := hide ((unhide HK).trans hk3)
       clear hk3 P38
       refine Stp.go ?_))
  constructor
  go_wp2_with fail
  go_ret2
  refine ⟨v, ws, .slice none 0 0, ?_, ?_, ?_, (fun k e => by cases e), fun u hu => hu⟩
  · rw [unhide HC]; rfl
  · rw [unhide HC]; exact SR.same (unhide HS) (unhide HK)
  · rw [unhide HC]; exact bod_nil _
set_option maxHeartbeats 2000000 in
theorem come_0 (b : Nat) (v : Value) (ws : List Value) (P : Ps) (d : Dg) (uo : Option Addr) (m uc : Nat) (w : World) (h : Sx w b v ws P) (hm : d.bs.length = m) (hno : P.no d = false) (h0 : d.seq = 0) : Calls Try.prog 20 #[P0 b, aggV (d.C (.slice uo m uc))] w fun e w' => CRs w b v ws P d e w' := by
  have P38 := hide (fun W (hk : Kept [] w W) => no38 b v ws P d uo uc W (h.kept0 hk))
  have P33 := hide (fun W (hk : Kept [] w W) => none33 b v ws P W (h.kept0 hk))
  rw [hno, hm] at P38
  have HS := hide h
  obtain ⟨_, _, _, hsq, hak, hal, hsz, hbl⟩ := no_parts hno
  obtain ⟨a, ha⟩ : ∃ a : Nat, d.ack = a := ⟨d.ack.toNat, by omega⟩
  have HAL : Hid (a ≤ P.sent.length) := (by omega : a ≤ P.sent.length)
  have HAN : Hid (d.ack.toNat = a) := (by omega : d.ack.toNat = a)
  have HSQ := hide hsq
  have HAK := hide ha
  have hgot := h.ok.got
  have hcm : P.come d = (P.forget a, none) := by unfold Ps.come; rw [if_neg (by rw [hno]; simp), if_pos h0, unhide HAN]
  have HC := hide hcm
  have H0 := hide h0
  clear h hm hno hcm h0 hsq hak hal hsz hbl ha hgot
  go_enter Try.func20, Try.ntmps20
  go_wp2_with (
    first
    | (refine wpBoxV (by rfl) (.tmp 1) (by rfl) (d.C (.slice uo m uc)) (by kernel_rfl) ?_
       intro w1 z e1 B1 K1
       have HE : Hid (w.heap.size ≤ z) := by rw [e1]; exact (Nat.le_refl _ : w.heap.size ≤ w.heap.size)
       have HP := hide B1
       have HK := hide K1
       clear e1 B1 K1)
    | (go_at_call 33
       refine (unhide P33 _ (unhide HK)).mono ?_
       rintro e w2 ⟨rfl, q1, hq⟩
       replace HK : Hid (Kept [] w w2) := (unhide HK).trans (by rw [hq]; exact kept_drewN _ _ _)
       replace HP : Hid (Blk w2 z 35 (d.C (.slice uo m uc))) := by rw [hq]; exact unhide HP
       clear hq P33)
    | (refine wpLoadG row35 (by rfl) (.tmp 3) (by rfl) z 0 (by kernel_rfl) (d.C (.slice uo m uc)) rfl (unhide HP).range ?_)
    | (go_at_call 38
       refine (unhide P38 _ (unhide HK)).mono ?_
       rintro e w3 ⟨rfl, hk3⟩
       replace HP := hide ((unhide HP).kept hk3 (by simp))
       replace HK := hide ((unhide HK).trans hk3)
       clear hk3 P38
       refine Stp.go ?_))
  constructor
  have hc4 := fits_cell (unhide HP) 4 _ rfl
  rw [unhide HAK] at hc4
  have P39 := hide (forget39 b v ws P a _ ((unhide HS).kept0 (unhide HK)) (unhide HAL))
  go_wp2_with (
    first
    | (go_at_call 39
       refine (unhide P39).mono ?_
       rintro e w4 ⟨rfl, v', ws', hR, hsub⟩
       have HSUB := hide hsub
       have HZX : Hid (z ∉ b :: v.ownBlock.toList) := fun hmm => by
         have h1 := (unhide HS).lt
         have h2 := unhide HE
         rcases List.mem_cons.1 hmm with h3 | h3
         · omega
         · have := h1.2.1 z (by simpa using h3); omega
       replace HP := hide ((unhide HP).kept hR.kept (unhide HZX))
       have HR := hide (hR.after (unhide HK))
       clear hR P39 hc4 hsub
       have hc3 := fits_cell (unhide HP) 3 _ rfl
       refine Stp.go ?_))
  constructor
  rw [unhide H0] at hc3
  go_wp2_with fail
  go_ret2
  refine ⟨v', ws', .slice none 0 0, ?_, ?_, ?_, (fun k e => by cases e), unhide HSUB⟩
  · rw [unhide HC]; rfl
  · rw [unhide HC]; exact unhide HR
  · rw [unhide HC]; exact bod_nil _
set_option maxHeartbeats 2000000 in
theorem come_far (b : Nat) (v : Value) (ws : List Value) (P : Ps) (d : Dg) (uo : Option Addr) (m uc : Nat) (w : World) (h : Sx w b v ws P) (hm : d.bs.length = m) (hno : P.no d = false) (h0 : d.seq ≠ 0) (hx : d.seq ≠ P.got + 1) : Calls Try.prog 20 #[P0 b, aggV (d.C (.slice uo m uc))] w fun e w' => CRs w b v ws P d e w' := by
  have P38 := hide (fun W (hk : Kept [] w W) => no38 b v ws P d uo uc W (h.kept0 hk))
  have P33 := hide (fun W (hk : Kept [] w W) => none33 b v ws P W (h.kept0 hk))
  rw [hno, hm] at P38
  have HS := hide h
  obtain ⟨_, _, _, hsq, hak, hal, hsz, hbl⟩ := no_parts hno
  obtain ⟨a, ha⟩ : ∃ a : Nat, d.ack = a := ⟨d.ack.toNat, by omega⟩
  have HAL : Hid (a ≤ P.sent.length) := (by omega : a ≤ P.sent.length)
  have HAN : Hid (d.ack.toNat = a) := (by omega : d.ack.toNat = a)
  have HSQ := hide hsq
  have HAK := hide ha
  have hgot := h.ok.got
  have hcm : P.come d = ((P.forget a).owe, none) := by unfold Ps.come; rw [if_neg (by rw [hno]; simp), if_neg h0, if_neg hx, unhide HAN]
  have HC := hide hcm
  have hs0 := h0
  have HNX : Hid (decide (d.seq = P.got + 1) = false) := by have : decide (d.seq = P.got + 1) = false := by simpa using hx
                                                            exact this
  have HG := hide hgot
  clear h hm hno hcm h0 hsq hak hal hsz hbl ha hgot hx
  go_enter Try.func20, Try.ntmps20
  go_wp2_with (
    first
    | (refine wpBoxV (by rfl) (.tmp 1) (by rfl) (d.C (.slice uo m uc)) (by kernel_rfl) ?_
       intro w1 z e1 B1 K1
       have HE : Hid (w.heap.size ≤ z) := by rw [e1]; exact (Nat.le_refl _ : w.heap.size ≤ w.heap.size)
       have HP := hide B1
       have HK := hide K1
       clear e1 B1 K1)
    | (go_at_call 33
       refine (unhide P33 _ (unhide HK)).mono ?_
       rintro e w2 ⟨rfl, q1, hq⟩
       replace HK : Hid (Kept [] w w2) := (unhide HK).trans (by rw [hq]; exact kept_drewN _ _ _)
       replace HP : Hid (Blk w2 z 35 (d.C (.slice uo m uc))) := by rw [hq]; exact unhide HP
       clear hq P33)
    | (refine wpLoadG row35 (by rfl) (.tmp 3) (by rfl) z 0 (by kernel_rfl) (d.C (.slice uo m uc)) rfl (unhide HP).range ?_)
    | (go_at_call 38
       refine (unhide P38 _ (unhide HK)).mono ?_
       rintro e w3 ⟨rfl, hk3⟩
       replace HP := hide ((unhide HP).kept hk3 (by simp))
       replace HK := hide ((unhide HK).trans hk3)
       clear hk3 P38
       refine Stp.go ?_))
  constructor
  have hc4 := fits_cell (unhide HP) 4 _ rfl
  rw [unhide HAK] at hc4
  have P39 := hide (forget39 b v ws P a _ ((unhide HS).kept0 (unhide HK)) (unhide HAL))
  go_wp2_with (
    first
    | (go_at_call 39
       refine (unhide P39).mono ?_
       rintro e w4 ⟨rfl, v', ws', hR, hsub⟩
       have HSUB := hide hsub
       have HZX : Hid (z ∉ b :: v.ownBlock.toList) := fun hmm => by
         have h1 := (unhide HS).lt
         have h2 := unhide HE
         rcases List.mem_cons.1 hmm with h3 | h3
         · omega
         · have := h1.2.1 z (by simpa using h3); omega
       replace HP := hide ((unhide HP).kept hR.kept (unhide HZX))
       have HR := hide (hR.after (unhide HK))
       clear hR P39 hc4 hsub
       have hc3 := fits_cell (unhide HP) 3 _ rfl
       refine Stp.go ?_))
  constructor
  go_wp2_with fail
  have HH := hide (unhide HR).sx.head
  refine wp_region_any mixed (wpAny_tq 10 rfl (by kernel_rfl) [some (.pointer (some ⟨z, 3, none⟩)), some (.int .i64 d.seq), some (P0 b), some (P0 b), some (.pointer (some ⟨b, 0, none⟩)), some (.pointer (some ⟨b, 5, none⟩)), some (.int .i64 P.got), some (.int .i64 (P.got + 1)), some (.bool true), some (.bool true)] rfl (by kernel_rfl) (by kernel_rfl) ?_ ?_)
  · intro i o' hi hsk ho a' w2 hout hin hk2
    replace hk2 : Kept [] w4 w2 := ⟨hk2.os, hk2.tape, hk2.output, hk2.size, hk2.block⟩
    match i, ho, hsk with
    | 0, ho, hsk =>
      obtain rfl := Option.some.inj ho
      exact o_fld35_3 (.tmp 3) rfl z ((hout 3 (by kernel_rfl)).trans rfl) ⟨_, rfl, tq_is _ _ _ _ rfl, Kept.refl _ _, fun _ _ _ _ _ => trivial⟩
    | 1, ho, hsk =>
      obtain rfl := Option.some.inj ho
      have e0 : a'.eval (.tmp 22) = .pointer (some ⟨z, 3, none⟩) := is_tq (hin 0 22 (by kernel_rfl) (by kernel_rfl)) rfl
      exact o_load2 (.tmp 22) rfl _ _ e0 (fits_cell ((unhide HP).kept hk2 (by simp)) 3 _ rfl) ⟨_, rfl, tq_is _ _ _ _ rfl, Kept.refl _ _, fun _ _ _ _ _ => trivial⟩
    | 2, ho, hsk =>
      obtain rfl := Option.some.inj ho
      exact wp_move (.tmp 0) rfl _ ((hout 0 (by kernel_rfl)).trans rfl) ⟨_, rfl, tq_is _ _ _ _ rfl, Kept.refl _ _, fun _ _ _ _ _ => trivial⟩
    | 3, ho, hsk =>
      obtain rfl := Option.some.inj ho
      have e0 : a'.eval (.tmp 24) = P0 b := is_tq (hin 2 24 (by kernel_rfl) (by kernel_rfl)) rfl
      exact o_nil (.tmp 24) rfl _ e0 ⟨_, rfl, tq_is _ _ _ _ rfl, Kept.refl _ _, fun _ _ _ _ _ => trivial⟩
    | 4, ho, hsk =>
      obtain rfl := Option.some.inj ho
      have e0 : a'.eval (.tmp 25) = P0 b := is_tq (hin 3 25 (by kernel_rfl) (by kernel_rfl)) rfl
      exact o_fld68_0 (.tmp 25) rfl b e0 ⟨_, rfl, tq_is _ _ _ _ rfl, Kept.refl _ _, fun _ _ _ _ _ => trivial⟩
    | 5, ho, hsk =>
      obtain rfl := Option.some.inj ho
      have e0 : a'.eval (.tmp 26) = .pointer (some ⟨b, 0, none⟩) := is_tq (hin 4 26 (by kernel_rfl) (by kernel_rfl)) rfl
      exact o_fld66_5 (.tmp 26) rfl b e0 ⟨_, rfl, tq_is _ _ _ _ rfl, Kept.refl _ _, fun _ _ _ _ _ => trivial⟩
    | 6, ho, hsk =>
      obtain rfl := Option.some.inj ho
      have e0 : a'.eval (.tmp 27) = .pointer (some ⟨b, 5, none⟩) := is_tq (hin 5 27 (by kernel_rfl) (by kernel_rfl)) rfl
      exact o_load2 (.tmp 27) rfl _ _ e0 (fits_cell ((unhide HH).kept hk2 (by simp)) 5 _ rfl) ⟨_, rfl, tq_is _ _ _ _ rfl, Kept.refl _ _, fun _ _ _ _ _ => trivial⟩
    | 7, ho, hsk =>
      obtain rfl := Option.some.inj ho
      have e0 : a'.eval (.tmp 28) = .int .i64 P.got := is_tq (hin 6 28 (by kernel_rfl) (by kernel_rfl)) rfl
      exact o_add2 (.tmp 28) (.const (.int .i64 1)) rfl _ 1 (by have := unhide HG; omega) e0 rfl ⟨_, rfl, tq_is _ _ _ _ rfl, Kept.refl _ _, fun _ _ _ _ _ => trivial⟩
    | 8, ho, hsk =>
      obtain rfl := Option.some.inj ho
      have e0 : a'.eval (.tmp 23) = .int .i64 d.seq := is_tq (hin 1 23 (by kernel_rfl) (by kernel_rfl)) rfl
      have e1 : a'.eval (.tmp 29) = .int .i64 (P.got + 1) := is_tq (hin 7 29 (by kernel_rfl) (by kernel_rfl)) rfl
      exact o_neqT2 (.tmp 23) (.tmp 29) rfl _ _ false (unhide HNX) e0 e1 ⟨_, rfl, tq_is _ _ _ _ rfl, Kept.refl _ _, fun _ _ _ _ _ => trivial⟩
    | 9, ho, hsk =>
      obtain rfl := Option.some.inj ho
      have e0 : a'.eval (.tmp 30) = .bool true := is_tq (hin 8 30 (by kernel_rfl) (by kernel_rfl)) rfl
      exact wp_assignV (.tmp 30) rfl _ e0 ⟨_, rfl, tq_is _ _ _ _ rfl, Kept.refl _ _, fun _ _ _ _ _ => trivial⟩
  intro w9 hk9
  replace hk9 : Kept [] w4 w9 := ⟨hk9.os, hk9.tape, hk9.output, hk9.size, hk9.block⟩
  simp only [valsQ, List.map_cons, List.map_nil, Option.getD_some, List.take_succ_cons, List.take_zero, putAll, Act.put, List.setIfInBounds_toArray, List.set_cons_succ, List.set_cons_zero]
  refine wpAny_done (by kernel_rfl) ?_ _
  replace HR := hide ((unhide HR).more hk9)
  clear hk9 hc3 HH
  have HH := hide (unhide HR).sx.head
  go_wp2_with (
    first
    | (refine wpStoreV (T := 4) (b := b) (i := 6) (v := .bool true) (by rfl) (.tmp 34) (.const (.bool true)) (by rfl) (by rfl) (by kernel_rfl) (by rfl) 68 _ (unhide HH) (st4 _ _ _ _ _ _ (unhide HH) (by simp [Ps.C])) ?_
       intro w5 B5 K5
       have HR5 : Hid (SR w b v ws w5 v' ws' (P.forget a).owe) := (unhide HR).trans (head_sx (unhide HR).sx (owe_ok (unhide HR).sx.ok) rfl rfl B5 K5)
       clear B5 K5))
  go_ret2
  refine ⟨v', ws', .slice none 0 0, ?_, ?_, ?_, (fun k e => by cases e), unhide HSUB⟩
  · rw [unhide HC]; rfl
  · rw [unhide HC]; exact unhide HR5
  · rw [unhide HC]; exact bod_nil _
set_option maxHeartbeats 2000000 in
theorem come_next (b : Nat) (v : Value) (ws : List Value) (P : Ps) (d : Dg) (uo : Option Addr) (m uc : Nat) (w : World) (h : Sx w b v ws P) (hm : d.bs.length = m) (hV : Vals w uo m uc (u8s d.bs)) (hnil : uo = none → m = 0 ∧ uc = 0) (hby : ∀ x ∈ d.bs, 0 ≤ x ∧ x < 256) (hno : P.no d = false) (h0 : d.seq ≠ 0) (hx : d.seq = P.got + 1) (hVX : ∀ g off, u8s d.bs ≠ [] → uo = some ⟨g, off, none⟩ → g ∉ b :: v.ownBlock.toList) : Calls Try.prog 20 #[P0 b, aggV (d.C (.slice uo m uc))] w fun e w' => CRs w b v ws P d e w' := by
  have P38 := hide (fun W (hk : Kept [] w W) => no38 b v ws P d uo uc W (h.kept0 hk))
  have P33 := hide (fun W (hk : Kept [] w W) => none33 b v ws P W (h.kept0 hk))
  rw [hno, hm] at P38
  have HS := hide h
  obtain ⟨_, _, _, hsq, hak, hal, hsz, hbl⟩ := no_parts hno
  obtain ⟨a, ha⟩ : ∃ a : Nat, d.ack = a := ⟨d.ack.toNat, by omega⟩
  have HAL : Hid (a ≤ P.sent.length) := (by omega : a ≤ P.sent.length)
  have HAN : Hid (d.ack.toNat = a) := (by omega : d.ack.toNat = a)
  have HSQ := hide hsq
  have HAK := hide ha
  have hgot := h.ok.got
  have hcm : P.come d = ((P.forget a).take d.seq, some d.bs) := by unfold Ps.come; rw [if_neg (by rw [hno]; simp), if_neg h0, if_pos hx, unhide HAN]
  have HC := hide hcm
  have hs0 := h0
  have HNX : Hid (decide (d.seq = P.got + 1) = true) := by have : decide (d.seq = P.got + 1) = true := by simpa using hx
                                                           exact this
  have HG := hide hgot
  have HV := hide hV
  have HN := hide hnil
  have HBY := hide hby
  have HVX := hide hVX
  have HM : Hid (m ≤ 256) := (by omega : m ≤ 256)
  clear h hm hno hcm h0 hsq hak hal hsz hbl ha hgot hx hV hnil hby hVX
  go_enter Try.func20, Try.ntmps20
  go_wp2_with (
    first
    | (refine wpBoxV (by rfl) (.tmp 1) (by rfl) (d.C (.slice uo m uc)) (by kernel_rfl) ?_
       intro w1 z e1 B1 K1
       have HE : Hid (w.heap.size ≤ z) := by rw [e1]; exact (Nat.le_refl _ : w.heap.size ≤ w.heap.size)
       have HP := hide B1
       have HK := hide K1
       clear e1 B1 K1)
    | (go_at_call 33
       refine (unhide P33 _ (unhide HK)).mono ?_
       rintro e w2 ⟨rfl, q1, hq⟩
       replace HK : Hid (Kept [] w w2) := (unhide HK).trans (by rw [hq]; exact kept_drewN _ _ _)
       replace HP : Hid (Blk w2 z 35 (d.C (.slice uo m uc))) := by rw [hq]; exact unhide HP
       clear hq P33)
    | (refine wpLoadG row35 (by rfl) (.tmp 3) (by rfl) z 0 (by kernel_rfl) (d.C (.slice uo m uc)) rfl (unhide HP).range ?_)
    | (go_at_call 38
       refine (unhide P38 _ (unhide HK)).mono ?_
       rintro e w3 ⟨rfl, hk3⟩
       replace HP := hide ((unhide HP).kept hk3 (by simp))
       replace HK := hide ((unhide HK).trans hk3)
       clear hk3 P38
       refine Stp.go ?_))
  constructor
  have hc4 := fits_cell (unhide HP) 4 _ rfl
  rw [unhide HAK] at hc4
  have P39 := hide (forget39 b v ws P a _ ((unhide HS).kept0 (unhide HK)) (unhide HAL))
  go_wp2_with (
    first
    | (go_at_call 39
       refine (unhide P39).mono ?_
       rintro e w4 ⟨rfl, v', ws', hR, hsub⟩
       have HSUB := hide hsub
       have HZX : Hid (z ∉ b :: v.ownBlock.toList) := fun hmm => by
         have h1 := (unhide HS).lt
         have h2 := unhide HE
         rcases List.mem_cons.1 hmm with h3 | h3
         · omega
         · have := h1.2.1 z (by simpa using h3); omega
       replace HP := hide ((unhide HP).kept hR.kept (unhide HZX))
       have HR := hide (hR.after (unhide HK))
       clear hR P39 hc4 hsub
       have hc3 := fits_cell (unhide HP) 3 _ rfl
       refine Stp.go ?_))
  constructor
  go_wp2_with fail
  have HH := hide (unhide HR).sx.head
  refine wp_region_any mixed (wpAny_tq 10 rfl (by kernel_rfl) [some (.pointer (some ⟨z, 3, none⟩)), some (.int .i64 d.seq), some (P0 b), some (P0 b), some (.pointer (some ⟨b, 0, none⟩)), some (.pointer (some ⟨b, 5, none⟩)), some (.int .i64 P.got), some (.int .i64 (P.got + 1)), some (.bool false), some (.bool false)] rfl (by kernel_rfl) (by kernel_rfl) ?_ ?_)
  · intro i o' hi hsk ho a' w2 hout hin hk2
    replace hk2 : Kept [] w4 w2 := ⟨hk2.os, hk2.tape, hk2.output, hk2.size, hk2.block⟩
    match i, ho, hsk with
    | 0, ho, hsk =>
      obtain rfl := Option.some.inj ho
      exact o_fld35_3 (.tmp 3) rfl z ((hout 3 (by kernel_rfl)).trans rfl) ⟨_, rfl, tq_is _ _ _ _ rfl, Kept.refl _ _, fun _ _ _ _ _ => trivial⟩
    | 1, ho, hsk =>
      obtain rfl := Option.some.inj ho
      have e0 : a'.eval (.tmp 22) = .pointer (some ⟨z, 3, none⟩) := is_tq (hin 0 22 (by kernel_rfl) (by kernel_rfl)) rfl
      exact o_load2 (.tmp 22) rfl _ _ e0 (fits_cell ((unhide HP).kept hk2 (by simp)) 3 _ rfl) ⟨_, rfl, tq_is _ _ _ _ rfl, Kept.refl _ _, fun _ _ _ _ _ => trivial⟩
    | 2, ho, hsk =>
      obtain rfl := Option.some.inj ho
      exact wp_move (.tmp 0) rfl _ ((hout 0 (by kernel_rfl)).trans rfl) ⟨_, rfl, tq_is _ _ _ _ rfl, Kept.refl _ _, fun _ _ _ _ _ => trivial⟩
    | 3, ho, hsk =>
      obtain rfl := Option.some.inj ho
      have e0 : a'.eval (.tmp 24) = P0 b := is_tq (hin 2 24 (by kernel_rfl) (by kernel_rfl)) rfl
      exact o_nil (.tmp 24) rfl _ e0 ⟨_, rfl, tq_is _ _ _ _ rfl, Kept.refl _ _, fun _ _ _ _ _ => trivial⟩
    | 4, ho, hsk =>
      obtain rfl := Option.some.inj ho
      have e0 : a'.eval (.tmp 25) = P0 b := is_tq (hin 3 25 (by kernel_rfl) (by kernel_rfl)) rfl
      exact o_fld68_0 (.tmp 25) rfl b e0 ⟨_, rfl, tq_is _ _ _ _ rfl, Kept.refl _ _, fun _ _ _ _ _ => trivial⟩
    | 5, ho, hsk =>
      obtain rfl := Option.some.inj ho
      have e0 : a'.eval (.tmp 26) = .pointer (some ⟨b, 0, none⟩) := is_tq (hin 4 26 (by kernel_rfl) (by kernel_rfl)) rfl
      exact o_fld66_5 (.tmp 26) rfl b e0 ⟨_, rfl, tq_is _ _ _ _ rfl, Kept.refl _ _, fun _ _ _ _ _ => trivial⟩
    | 6, ho, hsk =>
      obtain rfl := Option.some.inj ho
      have e0 : a'.eval (.tmp 27) = .pointer (some ⟨b, 5, none⟩) := is_tq (hin 5 27 (by kernel_rfl) (by kernel_rfl)) rfl
      exact o_load2 (.tmp 27) rfl _ _ e0 (fits_cell ((unhide HH).kept hk2 (by simp)) 5 _ rfl) ⟨_, rfl, tq_is _ _ _ _ rfl, Kept.refl _ _, fun _ _ _ _ _ => trivial⟩
    | 7, ho, hsk =>
      obtain rfl := Option.some.inj ho
      have e0 : a'.eval (.tmp 28) = .int .i64 P.got := is_tq (hin 6 28 (by kernel_rfl) (by kernel_rfl)) rfl
      exact o_add2 (.tmp 28) (.const (.int .i64 1)) rfl _ 1 (by have := unhide HG; omega) e0 rfl ⟨_, rfl, tq_is _ _ _ _ rfl, Kept.refl _ _, fun _ _ _ _ _ => trivial⟩
    | 8, ho, hsk =>
      obtain rfl := Option.some.inj ho
      have e0 : a'.eval (.tmp 23) = .int .i64 d.seq := is_tq (hin 1 23 (by kernel_rfl) (by kernel_rfl)) rfl
      have e1 : a'.eval (.tmp 29) = .int .i64 (P.got + 1) := is_tq (hin 7 29 (by kernel_rfl) (by kernel_rfl)) rfl
      exact o_neqT2 (.tmp 23) (.tmp 29) rfl _ _ true (unhide HNX) e0 e1 ⟨_, rfl, tq_is _ _ _ _ rfl, Kept.refl _ _, fun _ _ _ _ _ => trivial⟩
    | 9, ho, hsk =>
      obtain rfl := Option.some.inj ho
      have e0 : a'.eval (.tmp 30) = .bool false := is_tq (hin 8 30 (by kernel_rfl) (by kernel_rfl)) rfl
      exact wp_assignV (.tmp 30) rfl _ e0 ⟨_, rfl, tq_is _ _ _ _ rfl, Kept.refl _ _, fun _ _ _ _ _ => trivial⟩
  intro w9 hk9
  replace hk9 : Kept [] w4 w9 := ⟨hk9.os, hk9.tape, hk9.output, hk9.size, hk9.block⟩
  simp only [valsQ, List.map_cons, List.map_nil, Option.getD_some, List.take_succ_cons, List.take_zero, putAll, Act.put, List.setIfInBounds_toArray, List.set_cons_succ, List.set_cons_zero]
  refine wpAny_done (by kernel_rfl) ?_ _
  replace HR := hide ((unhide HR).more hk9)
  replace HP := hide ((unhide HP).kept hk9 (by simp))
  clear hk9 hc3 HH
  have HH := hide (unhide HR).sx.head
  have hc3 := fits_cell (unhide HP) 3 _ rfl
  have HZB : Hid (z ≠ b) := fun e => by have h1 := (unhide HS).lt.1; have h2 := unhide HE; omega
  go_wp2_with (
    first
    | (refine wpStoreV (T := 2) (b := b) (i := 5) (v := .int .i64 d.seq) (by rfl) (.tmp 41) (.tmp 38) (by rfl) (by rfl) (by kernel_rfl) (by rfl) 68 _ (unhide HH) (st2 _ _ _ _ _ _ (unhide HH) (by simp [Ps.C])) ?_
       intro w5 B5 K5
       replace HH := hide B5
       replace HP := hide ((unhide HP).kept K5 (by have := unhide HZB; simpa using this))
       have HK5 := hide K5
       clear B5 K5 hc3)
    | (refine wpStoreV (T := 4) (b := b) (i := 6) (v := .bool true) (by rfl) (.tmp 44) (.const (.bool true)) (by rfl) (by rfl) (by kernel_rfl) (by rfl) 68 _ (unhide HH) (st4 _ _ _ _ _ _ (unhide HH) (by simp [Ps.C])) ?_
       intro w6 B6 K6
       have HR6 : Hid (SR w b v ws w6 v' ws' ((P.forget a).take d.seq)) := (unhide HR).trans (head_sx (unhide HR).sx (take_ok (unhide HR).sx.ok (unhide HSQ)) rfl rfl B6 ((unhide HK5).trans K6))
       replace HP := hide ((unhide HP).kept K6 (by have := unhide HZB; simpa using this))
       clear B6 K6
       have hc5 := fits_cell (unhide HP) 5 _ rfl)
    | (go_at_call 34
       refine (clone34 uo m uc d.bs _ ⟨(unhide HV).len, (unhide HV).cap, fun hne => by
         obtain ⟨g, off, e, hr⟩ := (unhide HV).lies hne
         exact ⟨g, off, e, fun j u hj => (unhide HR6).kept.cell (hr j u hj) (unhide HVX g off hne e)⟩⟩ (unhide HN) (unhide HBY) (by have := unhide HM; omega)).mono ?_
       rintro e w7 ⟨r, rfl, hB7, hf7, hk7⟩
       have HB7 := hide hB7
       have HF7 : Hid (∀ k, r.ownBlock = some k → w.heap.size ≤ k) := fun k e => by have := hf7 k e; have := (unhide HR6).kept.size; omega
       replace HR6 := hide ((unhide HR6).more hk7)
       clear hB7 hf7 hk7 hc5))
  go_ret2
  refine ⟨v', ws', r, ?_, ?_, ?_, unhide HF7, unhide HSUB⟩
  · rw [unhide HC]; rfl
  · rw [unhide HC]; exact unhide HR6
  · rw [unhide HC]; exact unhide HB7
theorem come20s (b : Nat) (v : Value) (ws : List Value) (P : Ps) (d : Dg) (uo : Option Addr) (m uc : Nat) (w : World) (h : Sx w b v ws P) (hm : d.bs.length = m) (hV : Vals w uo m uc (u8s d.bs)) (hnil : uo = none → m = 0 ∧ uc = 0) (hby : ∀ x ∈ d.bs, 0 ≤ x ∧ x < 256) (hVX : ∀ g off, u8s d.bs ≠ [] → uo = some ⟨g, off, none⟩ → g ∉ b :: v.ownBlock.toList) : Calls Try.prog 20 #[P0 b, aggV (d.C (.slice uo m uc))] w fun e w' => CRs w b v ws P d e w' := by
  cases hno : P.no d with
  | true => exact come_no b v ws P d uo m uc w h hm hno
  | false =>
    by_cases h0 : d.seq = 0
    · exact come_0 b v ws P d uo m uc w h hm hno h0
    · by_cases hx : d.seq = P.got + 1
      · exact come_next b v ws P d uo m uc w h hm hV hnil hby hno h0 hx hVX
      · exact come_far b v ws P d uo m uc w h hm hno h0 hx
theorem come20 (b : Nat) (v : Value) (ws : List Value) (P : Ps) (d : Dg) (uo : Option Addr) (m uc : Nat) (w : World) (h : Sx w b v ws P) (hm : d.bs.length = m) (hV : Vals w uo m uc (u8s d.bs)) (hnil : uo = none → m = 0 ∧ uc = 0) (hby : ∀ x ∈ d.bs, 0 ≤ x ∧ x < 256) (hVX : ∀ g off, u8s d.bs ≠ [] → uo = some ⟨g, off, none⟩ → g ∉ b :: v.ownBlock.toList) : Calls Try.prog 20 #[P0 b, aggV (d.C (.slice uo m uc))] w fun e w' => CR w b v ws P d e w' := by
  refine (come20s b v ws P d uo m uc w h hm hV hnil hby hVX).mono ?_
  rintro e w' ⟨v', ws', r, h1, h2, h3, h4, _⟩
  exact ⟨v', ws', r, h1, h2, h3, h4⟩

end Go.Proofs.Ythbgnpbkdeofcaa
