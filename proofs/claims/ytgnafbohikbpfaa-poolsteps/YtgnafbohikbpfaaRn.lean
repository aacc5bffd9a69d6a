/-
  do: copies; do as one contract.
-/
import Derived.Test.YtgnafbohikbpfaaRm
namespace Go.Proofs.Ytgnafbohikbpfaa
set_option maxRecDepth 100000
set_option linter.unusedSimpArgs false
open Go.RowKit


variable {w0 w W W' W1 : World} {b mb r g b2 m2 m : Nat} {P P1 P2 Q : Po}
theorem Kept.two (h : Kept [b, mb] W1 W) (k : Kept [b, m] W W') (hm : m = mb ∨ W1.heap.size ≤ m) : Kept [b, mb] W1 W' := by
  rcases hm with rfl | hm
  · exact h.trans k
  · exact ⟨k.os.trans h.os, k.tape.trans h.tape, k.output.trans h.output, Nat.le_trans h.size k.size, fun j hl hx => by
      rw [k.block j (Nat.lt_of_lt_of_le hl h.size) (by simp at hx; simp; exact ⟨hx.1, by omega⟩), h.block j hl hx]⟩
/-- A pool, its copy, and the document's pool. -/
structure D8 (w0 W1 W : World) (b mb m b2 m2 r g : Nat) (P P1 : Po) : Prop where
  on : On w0 W b m P1
  cp : On w0 W b2 m2 P
  ro : Ro w0 W r g P
  a1 : Apt b m b2 m2
  a2 : Apt b m r g
  a3 : Apt b2 m2 r g
  k : Kept [b, mb] W1 W
  hm : m = mb ∨ W1.heap.size ≤ m
theorem D8.next (h : D8 w0 W1 W b mb m b2 m2 r g P P1) {m3 : Nat} (o : On w0 W' b m3 P2) (hk : Kept [b, m] W W') (hf : m3 = m ∨ W.heap.size ≤ m3) : D8 w0 W1 W' b mb m3 b2 m2 r g P P2 := by
  obtain ⟨h1, h2⟩ := h.cp.other h.a1 hk h.on hf
  obtain ⟨h3, h4⟩ := h.ro.other h.a2 hk h.on hf
  refine ⟨o, h1, h3, h2, h4, h.a3, h.k.two hk h.hm, ?_⟩
  rcases hf with e | e
  · rw [e]; exact h.hm
  · exact .inr (Nat.le_trans h.k.size e)
theorem D8.step0 (h : D8 w0 W1 W b mb m b2 m2 r g P P1) (hk : Kept [] W W') : D8 w0 W1 W' b mb m b2 m2 r g P P1 := ⟨h.on.step0 hk, h.cp.step0 hk, h.ro.step0 hk, h.a1, h.a2, h.a3, h.k.trans (hk.mono (by simp)), h.hm⟩
theorem Ro.apt (k : Ro w0 W b2 m2 Q) (h1 : W.heap.size ≤ b) (h2 : W.heap.size ≤ mb) : Apt b mb b2 m2 := by
  have := k.lt
  exact ⟨by omega, by omega, by omega, by omega⟩
theorem sameP_self (P : Po) : sameP P P = true := by unfold sameP; rw [likeP_iff.2 (fun _ _ => rfl)]; simp
set_option maxHeartbeats 1000000 in
theorem do_8 (h : Tw w0 w b mb r g P) (x : Se) (hk1 : ¬ x.kd = 1) (hk2 : ¬ x.kd = 2) (hk3 : ¬ x.kd = 3) (hk4 : ¬ x.kd = 4) (hk5 : ¬ x.kd = 5) (hk6 : ¬ x.kd = 6) (hk7 : ¬ x.kd = 7) (hk8 : x.kd = 8) : Calls Try.prog 11 #[P0 b, P0 r, aggV x.C] w (DC w0 w b mb r g (doP P x)) := by
  have hdp : doP P x = P := by unfold doP; rw [if_neg hk1, if_neg hk2, if_neg hk3, if_neg hk4, if_neg hk5, if_neg hk6, if_neg hk7]
  rw [hdp]
  clear hdp
  have dk1 : decide (x.kd = 1) = false := by simpa using hk1
  have dq1 : (x.kd == 1) = false := by simpa using hk1
  have dk2 : decide (x.kd = 2) = false := by simpa using hk2
  have dq2 : (x.kd == 2) = false := by simpa using hk2
  have dk3 : decide (x.kd = 3) = false := by simpa using hk3
  have dq3 : (x.kd == 3) = false := by simpa using hk3
  have dk4 : decide (x.kd = 4) = false := by simpa using hk4
  have dq4 : (x.kd == 4) = false := by simpa using hk4
  have dk5 : decide (x.kd = 5) = false := by simpa using hk5
  have dq5 : (x.kd == 5) = false := by simpa using hk5
  have dk6 : decide (x.kd = 6) = false := by simpa using hk6
  have dq6 : (x.kd == 6) = false := by simpa using hk6
  have dk7 : decide (x.kd = 7) = false := by simpa using hk7
  have dq7 : (x.kd == 7) = false := by simpa using hk7
  have dk8 : decide (x.kd = 8) = true := by simpa using hk8
  have dq8 : (x.kd == 8) = true := by simpa using hk8
  obtain ⟨xc, hxc⟩ : ∃ c, c = x.C := ⟨_, rfl⟩
  have HX0 : Hid (xc[0]? = some (.int .i64 x.kd)) := by show _ = _; rw [hxc]; rfl
  have HX1 : Hid (xc[1]? = some (.int .i64 x.pg)) := by show _ = _; rw [hxc]; rfl
  rw [← hxc]
  have HT := hide h
  obtain ⟨fc, hfc⟩ : ∃ c, c = (frS 15).C := ⟨_, rfl⟩
  have HFS : Hid ((frS 15).C = fc) := hfc.symm
  obtain ⟨Qa, hQa⟩ : ∃ q, q = (setP P (frS 15)).1 := ⟨_, rfl⟩
  obtain ⟨Qb, hQb⟩ : ∃ q, q = Qa.vic.1 := ⟨_, rfl⟩
  obtain ⟨va, hva⟩ : ∃ q, q = (setP P (frS 15)).2 := ⟨_, rfl⟩
  obtain ⟨vb, hvb⟩ : ∃ q, q = Qa.vic.2 := ⟨_, rfl⟩
  obtain ⟨Qc, hQc⟩ : ∃ q, q = (dropP Qb 1).1 := ⟨_, rfl⟩
  obtain ⟨vc, hvc⟩ : ∃ q, q = (dropP Qb 1).2.2 := ⟨_, rfl⟩
  obtain ⟨gc, hgc⟩ : ∃ q, q = (dropP Qb 1).2.1.C := ⟨_, rfl⟩
  have P19 : Hid (∀ W b mb, On w0 W b mb P → Calls Try.prog 19 #[P0 b, aggV fc] W (OC w0 W b mb Qa (.int .i64 va))) := fun W b mb h => by rw [hfc, hQa, hva]; exact on_set h _
  have P17 : Hid (∀ W b mb, On w0 W b mb Qa → Calls Try.prog 17 #[P0 b] W (OC w0 W b mb Qb (.tuple #[.int .i64 vb.1, .bool vb.2]))) := fun W b mb h => by rw [hQb, hvb]; exact on_vic h
  have P22 : Hid (∀ W b mb, On w0 W b mb Qb → Calls Try.prog 22 #[P0 b, .int .i64 1] W (OC w0 W b mb Qc (.tuple #[aggV gc, .int .i64 vc]))) := fun W b mb h => by rw [hQc, hvc, hgc]; exact on_drop h _
  clear hxc hfc hQa hQb hva hvb hQc hvc hgc h hk1 hk2 hk3 hk4 hk5 hk6 hk7 hk8
  go_enter Try.func11, Try.ntmps11
  go_wp2_with (
    first
    | (refine wpBoxV rfl (.tmp 2) rfl xc rfl ?_
       intro W1 y e1 B1 K1
       have HK1 := hide K1
       have HYE : Hid (y = w.heap.size) := e1
       have ck : W1.cell? ⟨y, 0, none⟩ = some (.int .i64 x.kd) := fits_cell B1 0 _ (unhide HX0)
       have HBY := hide B1
       clear e1 B1 K1
       refine Stp.go ?_))
  constructor
  go_wp2_with (
    first
    | (go_at_call 23
       refine (on_copy ((unhide HT).step0 (unhide HK1)).on).mono ?_
       rintro e W2 ⟨b2, m2, rfl, h1, h2, o2, k2⟩
       have HD : Hid (D8 w0 W1 W2 b mb mb b2 m2 r g P P) := ⟨(((unhide HT).step0 (unhide HK1)).step0 k2).on, o2, (((unhide HT).step0 (unhide HK1)).step0 k2).ro, (((unhide HT).step0 (unhide HK1)).on.apt h1 h2).symm, (unhide HT).ap, ((unhide HT).step0 (unhide HK1)).ro.apt h1 h2, k2.mono (by simp), .inl rfl⟩
       have HB2 : Hid (W1.heap.size ≤ b2 ∧ W1.heap.size ≤ m2) := ⟨h1, h2⟩
       clear h1 h2 o2 k2
       refine Stp.go ?_))
  constructor
  go_wp2_with (
    first
    | (go_at_call 13
       refine (on_same (unhide HD).cp (unhide HD).on).mono ?_
       rw [sameP_self]
       rintro e W9 ⟨rfl, k9⟩
       replace HD := hide ((unhide HD).step0 k9)
       clear k9
       refine Stp.go ?_))
  constructor
  go_wp2_with (
    first
    | (go_at_call 20
       refine (frame20 15 _).mono ?_
       rw [unhide HFS]
       rintro e W9 ⟨rfl, k9⟩
       replace HD := hide ((unhide HD).step0 k9)
       clear k9
       refine Stp.go ?_))
  constructor
  go_wp2_with (
    first
    | (go_at_call 19
       refine (unhide P19 _ _ _ (unhide HD).on).mono ?_
       rintro e W9 ⟨m9, rfl, o9, k9, f9⟩
       replace HD := hide ((unhide HD).next o9 k9 f9)
       clear o9 k9 f9
       refine Stp.go ?_))
  constructor
  go_wp2_with (
    first
    | (go_at_call 17
       refine (unhide P17 _ _ _ (unhide HD).on).mono ?_
       rintro e W9 ⟨m9, rfl, o9, k9, f9⟩
       replace HD := hide ((unhide HD).next o9 k9 f9)
       clear o9 k9 f9
       refine Stp.go ?_))
  constructor
  go_wp2_with (
    first
    | (go_at_call 22
       refine (unhide P22 _ _ _ (unhide HD).on).mono ?_
       rintro e W9 ⟨m9, rfl, o9, k9, f9⟩
       replace HD := hide ((unhide HD).next o9 k9 f9)
       clear o9 k9 f9
       refine Stp.go ?_))
  constructor
  go_wp2_with fail
  refine bodyPost_ret (res11 _ _ _ _ _ rfl rfl rfl) rfl ?_
  have hd := unhide HD
  have hb := unhide HB2
  have hk := unhide HK1
  exact ⟨b2, m2, g, rfl, ⟨hd.cp, hd.ro, hd.a3⟩, (hk.mono (by simp)).trans (hd.k.mono (by simp)), .inr (Nat.le_trans hk.size hb.1), .inr (Nat.le_trans hk.size hb.2), .inl rfl⟩
theorem do11 (h : Tw w0 w b mb r g P) (x : Se) (hp : ∀ i, (P.S i).pn ≤ 1000000) : Calls Try.prog 11 #[P0 b, P0 r, aggV x.C] w (DC w0 w b mb r g (doP P x)) := by
  by_cases h1 : x.kd = 1
  · exact do_1 h x h1
  by_cases h2 : x.kd = 2
  · exact do_2 h x h1 h2
  by_cases h3 : x.kd = 3
  · exact do_3 h x h1 h2 h3
  by_cases h4 : x.kd = 4
  · exact do_4 h x h1 h2 h3 h4 hp
  by_cases h5 : x.kd = 5
  · exact do_5 h x h1 h2 h3 h4 h5 hp
  by_cases h6 : x.kd = 6
  · exact do_6 h x h1 h2 h3 h4 h5 h6
  by_cases h7 : x.kd = 7
  · exact do_7 h x h1 h2 h3 h4 h5 h6 h7
  by_cases h8 : x.kd = 8
  · exact do_8 h x h1 h2 h3 h4 h5 h6 h7 h8
  · exact do_9 h x h1 h2 h3 h4 h5 h6 h7 h8

end Go.Proofs.Ytgnafbohikbpfaa
