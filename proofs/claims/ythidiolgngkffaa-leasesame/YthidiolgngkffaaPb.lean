/-
  Get; the document's number.
-/
import Derived.Test.YthidiolgngkffaaPa
namespace Go.Proofs.Ythidiolgngkffaa
set_option maxRecDepth 100000
open Go.RowKit


/-- The lease that a sector says. -/
def leS (s : List Int) : Le := ⟨ofB 0 ((s.drop 1).take 4), ofB 0 ((s.drop 5).take 8), ofB 0 ((s.drop 13).take 8)⟩
def getL (s : List Int) : Le × Int := if putL (leS s) = (s, 0) then (leS s, 0) else (le0, 12)
/-- A lease's variable is made and filled in a region. -/
@[reducible] def SV (V : World) (v : Le) (d : Nat → Bool) (vs : Nat → Value) (W : World) : Prop :=
  Kept [] V W ∧ (d 7 = true → ∃ p, vs 7 = P0 p ∧ V.heap.size ≤ p ∧ (d 8 = false → Blk W p 23 le0.C) ∧ (d 8 = true → Blk W p 23 v.C))
theorem SV.loc {V : World} {v : Le} : ∀ d d' vs vs' W, (∀ i ∈ [7, 8], d i = d' i ∧ vs i = vs' i) → SV V v d vs W → SV V v d' vs' W := by
  intro d d' vs vs' W H h
  have e0 := H 7 (by simp)
  have e1 := H 8 (by simp)
  unfold SV at h ⊢
  rw [← e0.1, ← e0.2, ← e1.1]
  exact h
section
variable {o : Oper} {a : Act} {w : World} {K : Act → World → Prop} {Q : Exit → Act → World → Prop}
theorem o_bld23 (x y z : Operand) (ho : o.op = .build 23 #[(0, x), (1, y), (2, z)]) (n f q : Int) (hx : a.eval x = .int .i64 n) (hy : a.eval y = .int .i64 f) (hz : a.eval z = .int .i64 q) (h : K (a.put o.dst (aggV (Le.mk n f q).C)) w) : o.wp Try.prog a w K Q := by
  unfold Oper.wp execOp
  simp only [ho, List.map_toArray, List.map_cons, List.map_nil, hx, hy, hz, Sem.run_bind, build23p, Result.andThen_ok]
  exact h
end
theorem Mm.add {X : List Nat} {w0 W : World} {bs : List (Nat × Nat × List Value)} (h : Mm X w0 W bs) {b T : Nat} {vs : List Value} (hb : Blk W b T vs) (hge : w0.heap.size ≤ b) (hne : ∀ x ∈ bs, x.1 ≠ b) : Mm X w0 W (bs ++ [(b, T, vs)]) := by
  refine ⟨h.kept, ?_, ?_, ?_⟩
  · intro x hx
    rcases List.mem_append.1 hx with hx | hx
    · exact h.blk x hx
    · simp at hx; subst hx; exact hb
  · intro x hx hl
    rcases List.mem_append.1 hx with hx | hx
    · exact h.own x hx hl
    · simp at hx; subst hx; simp at hl; omega
  · rw [List.map_append, List.nodup_append]
    refine ⟨h.nd, by simp, ?_⟩
    intro a ha c hc
    simp at hc; subst hc
    obtain ⟨x, hx, rfl⟩ := List.mem_map.1 ha
    exact hne x hx
theorem putL_len (lx : Le) : (putL lx).1.length = 64 := by
  unfold putL
  split
  · simp [zs]
  · split
    · simp [zs]
    · exact secL_len lx
theorem leS_ok (s : List Int) : I64 (leS s).ep ∧ I64 (leS s).be ∧ I64 (leS s).re := by
  have hi : ∀ (l : List Int) (n : Int), I64 n → I64 (ofB n l) := by
    intro l
    induction l with
    | nil => intro n h; exact h
    | cons x l ih => intro n _; rw [ofB]; exact ih _ (w64_i _)
  have h0 : I64 0 := ⟨by decide, by decide⟩
  exact ⟨hi _ _ h0, hi _ _ h0, hi _ _ h0⟩
set_option maxHeartbeats 2000000 in
theorem get_a (s q : List Int) (c : Int) (w : World) (hs : Byts 64 s) (hq : q.length = 64) (h8 : ∀ W, Calls Try.prog 8 #[aggV (leS s).C] W fun e w' => e = .returned (.tuple #[aggV (u8s q), .int .i64 c]) ∧ Kept [] W w') (hc : c = 0) (he : decide (s = q) = true) : Calls Try.prog 9 #[aggV (u8s s)] w fun x w' => x = .returned (.tuple #[aggV (leS s).C, .int .i64 0]) ∧ Kept [] w w' := by
  have P8 : ∀ W, Hid (Calls Try.prog 8 #[aggV (leS s).C] W fun e w' => e = .returned (.tuple #[aggV (u8s q), .int .i64 c]) ∧ Kept [] W w') := fun W => hide (h8 W)
  subst hc
  clear h8
  go_enter Try.func9, Try.ntmps9
  have M : Hid (Mm [] w w []) := hide Mm.init
  go_wp2_with (
    first
    | (refine wpBoxV rfl (.tmp 0) rfl (u8s s) rfl ?_
       intro W1 b1 e1 B1 K1
       replace M : Hid (Mm [] w W1 [(b1, 25, u8s s)]) := hide ((unhide M).new e1 B1 K1)
       clear e1 B1 K1
       refine Stp.go ?_))
  constructor
  go_wp2_with (
    first
    | (refine wpAllocW (le0.C) zero23 2 rfl rfl rfl ?_
       intro W2 b2 e2 B2 K2
       replace M : Hid (Mm [] w W2 [(b1, 25, u8s s), (b2, 23, le0.C)]) := hide ((unhide M).new e2 B2 K2)
       clear e2 B2 K2
       refine Stp.go ?_))
  constructor
  go_wp2_with fail
  refine wp_region_any mixed (wpAny_gx 9 rfl (by kernel_rfl) [some (.slice (some ⟨b1, 1, none⟩) 4 63), some (.int .i64 (ofB 0 ((s.drop 1).take 4))), some (.slice (some ⟨b1, 5, none⟩) 8 59), some (.int .i64 (ofB 0 ((s.drop 5).take 8))), some (.slice (some ⟨b1, 13, none⟩) 8 51), some (.int .i64 (ofB 0 ((s.drop 13).take 8))), some (aggV (leS s).C), none, none] rfl (by kernel_rfl) (fun l vs W => (SV W2 (leS s)) (fun i => l.getD i false) vs W) (⟨⟨rfl, rfl, rfl, Nat.le_refl _, fun _ _ _ => rfl⟩, fun h => by cases h⟩) ?_ ?_)
  · intro ix o' hi ho a' w2 l vs hls hlf hJ hout hin hdep hnot
    match ix, ho with
    | 0, ho =>
      obtain rfl := Option.some.inj ho
      have e0 := hout 1 (by kernel_rfl)
      replace e0 : a'.eval (.tmp 1) = _ := e0.trans rfl
      exact o_sl1 (.tmp 1) rfl b1 e0 ⟨_, rfl, told_of rfl, keepG (St := (SV W2 (leS s))) [7, 8] SV.loc (by omega) (by decide) hJ⟩
    | 1, ho =>
      obtain rfl := Option.some.inj ho
      have e0 : a'.eval (.tmp 7) = .slice (some ⟨b1, 1, none⟩) 4 63 := by have h9 := hin 0 7 (by kernel_rfl) (by kernel_rfl); exact h9.1.trans (told_is _ h9.2 rfl)
      refine wp_callF 26 _ _ rfl #[.slice (some ⟨b1, 1, none⟩) 4 63] (by simp [e0]) (cg26 _ _) ((number26 b1 4 1 (s.take 1) ((s.drop 1).take 4) ((s.drop 1).drop 4) w2 (by have h9 := ((unhide M).step hJ.1).at 0 _ rfl; rw [show s.take 1 ++ (s.drop 1).take 4 ++ (s.drop 1).drop 4 = s by rw [List.append_assoc, List.take_append_drop, List.take_append_drop]]; exact h9) (by rw [List.length_take, hs.len]; rfl) (by rw [List.length_take, List.length_drop, hs.len]; rfl) (fun x hx => hs.byte x (List.mem_of_mem_drop (List.mem_of_mem_take hx))) 63 (by omega)).mono ?_)
      rintro e w3 ⟨rfl, rfl⟩
      exact ⟨_, rfl, _, rfl, told_of rfl, keepG (St := (SV W2 (leS s))) [7, 8] SV.loc (by omega) (by decide) hJ⟩
    | 2, ho =>
      obtain rfl := Option.some.inj ho
      have e0 := hout 1 (by kernel_rfl)
      replace e0 : a'.eval (.tmp 1) = _ := e0.trans rfl
      exact o_sl5 (.tmp 1) rfl b1 e0 ⟨_, rfl, told_of rfl, keepG (St := (SV W2 (leS s))) [7, 8] SV.loc (by omega) (by decide) hJ⟩
    | 3, ho =>
      obtain rfl := Option.some.inj ho
      have e0 : a'.eval (.tmp 9) = .slice (some ⟨b1, 5, none⟩) 8 59 := by have h9 := hin 2 9 (by kernel_rfl) (by kernel_rfl); exact h9.1.trans (told_is _ h9.2 rfl)
      refine wp_callF 26 _ _ rfl #[.slice (some ⟨b1, 5, none⟩) 8 59] (by simp [e0]) (cg26 _ _) ((number26 b1 8 5 (s.take 5) ((s.drop 5).take 8) ((s.drop 5).drop 8) w2 (by have h9 := ((unhide M).step hJ.1).at 0 _ rfl; rw [show s.take 5 ++ (s.drop 5).take 8 ++ (s.drop 5).drop 8 = s by rw [List.append_assoc, List.take_append_drop, List.take_append_drop]]; exact h9) (by rw [List.length_take, hs.len]; rfl) (by rw [List.length_take, List.length_drop, hs.len]; rfl) (fun x hx => hs.byte x (List.mem_of_mem_drop (List.mem_of_mem_take hx))) 59 (by omega)).mono ?_)
      rintro e w3 ⟨rfl, rfl⟩
      exact ⟨_, rfl, _, rfl, told_of rfl, keepG (St := (SV W2 (leS s))) [7, 8] SV.loc (by omega) (by decide) hJ⟩
    | 4, ho =>
      obtain rfl := Option.some.inj ho
      have e0 := hout 1 (by kernel_rfl)
      replace e0 : a'.eval (.tmp 1) = _ := e0.trans rfl
      exact o_sl13 (.tmp 1) rfl b1 e0 ⟨_, rfl, told_of rfl, keepG (St := (SV W2 (leS s))) [7, 8] SV.loc (by omega) (by decide) hJ⟩
    | 5, ho =>
      obtain rfl := Option.some.inj ho
      have e0 : a'.eval (.tmp 11) = .slice (some ⟨b1, 13, none⟩) 8 51 := by have h9 := hin 4 11 (by kernel_rfl) (by kernel_rfl); exact h9.1.trans (told_is _ h9.2 rfl)
      refine wp_callF 26 _ _ rfl #[.slice (some ⟨b1, 13, none⟩) 8 51] (by simp [e0]) (cg26 _ _) ((number26 b1 8 13 (s.take 13) ((s.drop 13).take 8) ((s.drop 13).drop 8) w2 (by have h9 := ((unhide M).step hJ.1).at 0 _ rfl; rw [show s.take 13 ++ (s.drop 13).take 8 ++ (s.drop 13).drop 8 = s by rw [List.append_assoc, List.take_append_drop, List.take_append_drop]]; exact h9) (by rw [List.length_take, hs.len]; rfl) (by rw [List.length_take, List.length_drop, hs.len]; rfl) (fun x hx => hs.byte x (List.mem_of_mem_drop (List.mem_of_mem_take hx))) 51 (by omega)).mono ?_)
      rintro e w3 ⟨rfl, rfl⟩
      exact ⟨_, rfl, _, rfl, told_of rfl, keepG (St := (SV W2 (leS s))) [7, 8] SV.loc (by omega) (by decide) hJ⟩
    | 6, ho =>
      obtain rfl := Option.some.inj ho
      have e0 : a'.eval (.tmp 8) = .int .i64 (ofB 0 ((s.drop 1).take 4)) := by have h9 := hin 1 8 (by kernel_rfl) (by kernel_rfl); exact h9.1.trans (told_is _ h9.2 rfl)
      have e1 : a'.eval (.tmp 10) = .int .i64 (ofB 0 ((s.drop 5).take 8)) := by have h9 := hin 3 10 (by kernel_rfl) (by kernel_rfl); exact h9.1.trans (told_is _ h9.2 rfl)
      have e2 : a'.eval (.tmp 12) = .int .i64 (ofB 0 ((s.drop 13).take 8)) := by have h9 := hin 5 12 (by kernel_rfl) (by kernel_rfl); exact h9.1.trans (told_is _ h9.2 rfl)
      exact o_bld23 (.tmp 8) (.tmp 10) (.tmp 12) rfl _ _ _ e0 e1 e2 ⟨_, rfl, told_of rfl, keepG (St := (SV W2 (leS s))) [7, 8] SV.loc (by omega) (by decide) hJ⟩
    | 7, ho =>
      obtain rfl := Option.some.inj ho
      exact wp_allocA le0.C zero23 rfl ⟨_, rfl, told_no rfl, nextG (St := (SV W2 (leS s))) (by omega) ⟨hJ.1.alloc _, fun _ => ⟨w2.heap.size, rfl, hJ.1.size, fun _ => Blk.new w2 23 _, fun h => by have h9 : l.getD 8 false = true := h; rw [hnot 8 (by kernel_rfl)] at h9; cases h9⟩⟩⟩
    | 8, ho =>
      obtain rfl := Option.some.inj ho
      have e0 : a'.eval (.tmp 4) = vs 7 := (hin 7 4 (by kernel_rfl) (by kernel_rfl)).1
      have e1 : a'.eval (.tmp 13) = aggV (leS s).C := by have h9 := hin 6 13 (by kernel_rfl) (by kernel_rfl); exact h9.1.trans (told_is _ h9.2 rfl)
      obtain ⟨p, hp, hge, hz0, _⟩ := hJ.2 (hdep 7 (by kernel_rfl))
      exact wp_storeN row23 (.tmp 4) (.tmp 13) rfl rfl p 0 _ (e0.trans hp) e1 rfl (leC_one _) ((hz0 hlf).there (by decide)) ⟨undef, rfl, told_no rfl, nextG (St := (SV W2 (leS s))) (by omega) ⟨hJ.1.setCells _ _ (by omega), fun _ => ⟨p, hp, hge, (fun h => by cases h), fun _ => (hz0 hlf).put rfl⟩⟩⟩
  intro l_ vs4 V4 hl hJ htold
  have t0 : vs4 0 = .slice (some ⟨b1, 1, none⟩) 4 63 := told_is _ (htold 0 (by decide)) rfl
  have t1 : vs4 1 = .int .i64 (ofB 0 ((s.drop 1).take 4)) := told_is _ (htold 1 (by decide)) rfl
  have t2 : vs4 2 = .slice (some ⟨b1, 5, none⟩) 8 59 := told_is _ (htold 2 (by decide)) rfl
  have t3 : vs4 3 = .int .i64 (ofB 0 ((s.drop 5).take 8)) := told_is _ (htold 3 (by decide)) rfl
  have t4 : vs4 4 = .slice (some ⟨b1, 13, none⟩) 8 51 := told_is _ (htold 4 (by decide)) rfl
  have t5 : vs4 5 = .int .i64 (ofB 0 ((s.drop 13).take 8)) := told_is _ (htold 5 (by decide)) rfl
  have t6 : vs4 6 = aggV (leS s).C := told_is _ (htold 6 (by decide)) rfl
  rw [show (List.range 9).map vs4 = [vs4 0, vs4 1, vs4 2, vs4 3, vs4 4, vs4 5, vs4 6, vs4 7, vs4 8] from rfl]
  simp only [t0, t1, t2, t3, t4, t5, t6, putAll, Act.put, List.setIfInBounds_toArray, List.set_cons_succ, List.set_cons_zero]
  clear t0 t1 t2 t3 t4 t5 t6 htold
  obtain ⟨p, ep, hgp, _, hbp⟩ := hJ.2 (hl 7 (by decide))
  replace hbp := hbp (hl 8 (by decide))
  have hb1 : b1 < W2.heap.size := ((unhide M).at 0 _ rfl).lt
  have hb2 : b2 < W2.heap.size := ((unhide M).at 1 _ rfl).lt
  have hwz := (unhide M).kept.size
  replace M : Hid (Mm [] w V4 [(b1, 25, u8s s), (b2, 23, le0.C), (p, 23, (leS s).C)]) := hide (((unhide M).step hJ.1).add hbp (by omega) (fun x hx => by simp at hx; rcases hx with rfl | rfl <;> simp <;> omega))
  rw [ep]
  clear hJ hl ep hgp hbp hb1 hb2 hwz
  go_wp2_with (
    first
    | (refine wpLoadA row23 rfl (.tmp 4) rfl p 0 rfl ((leS s).C) rfl ((unhide M).at 2 _ rfl).range ?_
       refine Stp.go ?_))
  constructor
  go_wp2_with (
    first
    | (go_at_call 8
       refine (unhide (P8 _)).mono ?_
       rintro e W21 ⟨rfl, K21⟩
       replace M : Hid (Mm [] w W21 [(b1, 25, u8s s), (b2, 23, le0.C), (p, 23, (leS s).C)]) := hide ((unhide M).step K21)
       clear K21
       refine Stp.go ?_))
  constructor
  go_wp2_with (
    first
    | (refine wpNew row25 (u8s (zs 64)) (zl 64) zero25 5 rfl rfl rfl (.tmp 17) rfl rfl rfl (u8s q) (by rw [u8s_len]; exact hq) (u8s_one _) (by kernel_rfl) (by kernel_rfl) ?_
       intro W22 b22 e22 B22 K22
       replace M : Hid (Mm [] w W22 [(b1, 25, u8s s), (b2, 23, le0.C), (p, 23, (leS s).C), (b22, 25, u8s q)]) := hide ((unhide M).new e22 B22 K22)
       clear e22 B22 K22
       refine Stp.go ?_))
  constructor
  go_wp2_with (
    first
    | (refine wpLoadG row25 (.tmp 1) rfl rfl b1 0 rfl (u8s s) (by rw [u8s_len]; exact hs.len) ((unhide M).at 0 _ rfl).range ?_
       refine Stp.go ?_))
  constructor
  go_wp2_with (
    first
    | (refine wpLoadG row25 (.tmp 5) rfl rfl b22 0 rfl (u8s q) (by rw [u8s_len]; exact hq) ((unhide M).at 3 _ rfl).range ?_
       refine Stp.go ?_))
  constructor
  go_wp2_with (
    first
    | (refine wpNeqG 25 25 guard25 (.tmp 22) (.tmp 23) rfl rfl (u8s s) (u8s q) rfl rfl true ((equal25 _ s q hs.len hq).trans (by rw [he])) ?_
       refine Stp.go ?_))
  constructor
  go_wp2_with (
    first
    | (refine wpLoadA row23 rfl (.tmp 4) rfl p 0 rfl ((leS s).C) rfl ((unhide M).at 2 _ rfl).range ?_
       refine Stp.go ?_))
  constructor
  go_wp2_with (
    first
    | (refine wpStoreM row23 rfl (.tmp 2) (.tmp 27) rfl rfl b2 1 ((leS s).C) rfl rfl rfl (leC_one _) (unhide M) rfl rfl ?_
       intro W23 N23
       replace M : Hid (Mm [] w W23 [(b1, 25, u8s s), (b2, 23, (leS s).C), (p, 23, (leS s).C), (b22, 25, u8s q)]) := hide N23
       clear N23
       refine Stp.go ?_))
  constructor
  go_wp2_with fail
  refine bodyPost_ret (res9 _ b2 (leS s).C 0 _ rfl rfl rfl ((unhide M).at 1 _ rfl)) rfl ?_
  exact ⟨rfl, (unhide M).kept⟩
set_option maxHeartbeats 2000000 in
theorem get_b (s q : List Int) (c : Int) (w : World) (hs : Byts 64 s) (hq : q.length = 64) (h8 : ∀ W, Calls Try.prog 8 #[aggV (leS s).C] W fun e w' => e = .returned (.tuple #[aggV (u8s q), .int .i64 c]) ∧ Kept [] W w') (hc : c = 0) (he : decide (s = q) = false) : Calls Try.prog 9 #[aggV (u8s s)] w fun x w' => x = .returned (.tuple #[aggV le0.C, .int .i64 12]) ∧ Kept [] w w' := by
  have P8 : ∀ W, Hid (Calls Try.prog 8 #[aggV (leS s).C] W fun e w' => e = .returned (.tuple #[aggV (u8s q), .int .i64 c]) ∧ Kept [] W w') := fun W => hide (h8 W)
  subst hc
  clear h8
  go_enter Try.func9, Try.ntmps9
  have M : Hid (Mm [] w w []) := hide Mm.init
  go_wp2_with (
    first
    | (refine wpBoxV rfl (.tmp 0) rfl (u8s s) rfl ?_
       intro W1 b1 e1 B1 K1
       replace M : Hid (Mm [] w W1 [(b1, 25, u8s s)]) := hide ((unhide M).new e1 B1 K1)
       clear e1 B1 K1
       refine Stp.go ?_))
  constructor
  go_wp2_with (
    first
    | (refine wpAllocW (le0.C) zero23 2 rfl rfl rfl ?_
       intro W2 b2 e2 B2 K2
       replace M : Hid (Mm [] w W2 [(b1, 25, u8s s), (b2, 23, le0.C)]) := hide ((unhide M).new e2 B2 K2)
       clear e2 B2 K2
       refine Stp.go ?_))
  constructor
  go_wp2_with fail
  refine wp_region_any mixed (wpAny_gx 9 rfl (by kernel_rfl) [some (.slice (some ⟨b1, 1, none⟩) 4 63), some (.int .i64 (ofB 0 ((s.drop 1).take 4))), some (.slice (some ⟨b1, 5, none⟩) 8 59), some (.int .i64 (ofB 0 ((s.drop 5).take 8))), some (.slice (some ⟨b1, 13, none⟩) 8 51), some (.int .i64 (ofB 0 ((s.drop 13).take 8))), some (aggV (leS s).C), none, none] rfl (by kernel_rfl) (fun l vs W => (SV W2 (leS s)) (fun i => l.getD i false) vs W) (⟨⟨rfl, rfl, rfl, Nat.le_refl _, fun _ _ _ => rfl⟩, fun h => by cases h⟩) ?_ ?_)
  · intro ix o' hi ho a' w2 l vs hls hlf hJ hout hin hdep hnot
    match ix, ho with
    | 0, ho =>
      obtain rfl := Option.some.inj ho
      have e0 := hout 1 (by kernel_rfl)
      replace e0 : a'.eval (.tmp 1) = _ := e0.trans rfl
      exact o_sl1 (.tmp 1) rfl b1 e0 ⟨_, rfl, told_of rfl, keepG (St := (SV W2 (leS s))) [7, 8] SV.loc (by omega) (by decide) hJ⟩
    | 1, ho =>
      obtain rfl := Option.some.inj ho
      have e0 : a'.eval (.tmp 7) = .slice (some ⟨b1, 1, none⟩) 4 63 := by have h9 := hin 0 7 (by kernel_rfl) (by kernel_rfl); exact h9.1.trans (told_is _ h9.2 rfl)
      refine wp_callF 26 _ _ rfl #[.slice (some ⟨b1, 1, none⟩) 4 63] (by simp [e0]) (cg26 _ _) ((number26 b1 4 1 (s.take 1) ((s.drop 1).take 4) ((s.drop 1).drop 4) w2 (by have h9 := ((unhide M).step hJ.1).at 0 _ rfl; rw [show s.take 1 ++ (s.drop 1).take 4 ++ (s.drop 1).drop 4 = s by rw [List.append_assoc, List.take_append_drop, List.take_append_drop]]; exact h9) (by rw [List.length_take, hs.len]; rfl) (by rw [List.length_take, List.length_drop, hs.len]; rfl) (fun x hx => hs.byte x (List.mem_of_mem_drop (List.mem_of_mem_take hx))) 63 (by omega)).mono ?_)
      rintro e w3 ⟨rfl, rfl⟩
      exact ⟨_, rfl, _, rfl, told_of rfl, keepG (St := (SV W2 (leS s))) [7, 8] SV.loc (by omega) (by decide) hJ⟩
    | 2, ho =>
      obtain rfl := Option.some.inj ho
      have e0 := hout 1 (by kernel_rfl)
      replace e0 : a'.eval (.tmp 1) = _ := e0.trans rfl
      exact o_sl5 (.tmp 1) rfl b1 e0 ⟨_, rfl, told_of rfl, keepG (St := (SV W2 (leS s))) [7, 8] SV.loc (by omega) (by decide) hJ⟩
    | 3, ho =>
      obtain rfl := Option.some.inj ho
      have e0 : a'.eval (.tmp 9) = .slice (some ⟨b1, 5, none⟩) 8 59 := by have h9 := hin 2 9 (by kernel_rfl) (by kernel_rfl); exact h9.1.trans (told_is _ h9.2 rfl)
      refine wp_callF 26 _ _ rfl #[.slice (some ⟨b1, 5, none⟩) 8 59] (by simp [e0]) (cg26 _ _) ((number26 b1 8 5 (s.take 5) ((s.drop 5).take 8) ((s.drop 5).drop 8) w2 (by have h9 := ((unhide M).step hJ.1).at 0 _ rfl; rw [show s.take 5 ++ (s.drop 5).take 8 ++ (s.drop 5).drop 8 = s by rw [List.append_assoc, List.take_append_drop, List.take_append_drop]]; exact h9) (by rw [List.length_take, hs.len]; rfl) (by rw [List.length_take, List.length_drop, hs.len]; rfl) (fun x hx => hs.byte x (List.mem_of_mem_drop (List.mem_of_mem_take hx))) 59 (by omega)).mono ?_)
      rintro e w3 ⟨rfl, rfl⟩
      exact ⟨_, rfl, _, rfl, told_of rfl, keepG (St := (SV W2 (leS s))) [7, 8] SV.loc (by omega) (by decide) hJ⟩
    | 4, ho =>
      obtain rfl := Option.some.inj ho
      have e0 := hout 1 (by kernel_rfl)
      replace e0 : a'.eval (.tmp 1) = _ := e0.trans rfl
      exact o_sl13 (.tmp 1) rfl b1 e0 ⟨_, rfl, told_of rfl, keepG (St := (SV W2 (leS s))) [7, 8] SV.loc (by omega) (by decide) hJ⟩
    | 5, ho =>
      obtain rfl := Option.some.inj ho
      have e0 : a'.eval (.tmp 11) = .slice (some ⟨b1, 13, none⟩) 8 51 := by have h9 := hin 4 11 (by kernel_rfl) (by kernel_rfl); exact h9.1.trans (told_is _ h9.2 rfl)
      refine wp_callF 26 _ _ rfl #[.slice (some ⟨b1, 13, none⟩) 8 51] (by simp [e0]) (cg26 _ _) ((number26 b1 8 13 (s.take 13) ((s.drop 13).take 8) ((s.drop 13).drop 8) w2 (by have h9 := ((unhide M).step hJ.1).at 0 _ rfl; rw [show s.take 13 ++ (s.drop 13).take 8 ++ (s.drop 13).drop 8 = s by rw [List.append_assoc, List.take_append_drop, List.take_append_drop]]; exact h9) (by rw [List.length_take, hs.len]; rfl) (by rw [List.length_take, List.length_drop, hs.len]; rfl) (fun x hx => hs.byte x (List.mem_of_mem_drop (List.mem_of_mem_take hx))) 51 (by omega)).mono ?_)
      rintro e w3 ⟨rfl, rfl⟩
      exact ⟨_, rfl, _, rfl, told_of rfl, keepG (St := (SV W2 (leS s))) [7, 8] SV.loc (by omega) (by decide) hJ⟩
    | 6, ho =>
      obtain rfl := Option.some.inj ho
      have e0 : a'.eval (.tmp 8) = .int .i64 (ofB 0 ((s.drop 1).take 4)) := by have h9 := hin 1 8 (by kernel_rfl) (by kernel_rfl); exact h9.1.trans (told_is _ h9.2 rfl)
      have e1 : a'.eval (.tmp 10) = .int .i64 (ofB 0 ((s.drop 5).take 8)) := by have h9 := hin 3 10 (by kernel_rfl) (by kernel_rfl); exact h9.1.trans (told_is _ h9.2 rfl)
      have e2 : a'.eval (.tmp 12) = .int .i64 (ofB 0 ((s.drop 13).take 8)) := by have h9 := hin 5 12 (by kernel_rfl) (by kernel_rfl); exact h9.1.trans (told_is _ h9.2 rfl)
      exact o_bld23 (.tmp 8) (.tmp 10) (.tmp 12) rfl _ _ _ e0 e1 e2 ⟨_, rfl, told_of rfl, keepG (St := (SV W2 (leS s))) [7, 8] SV.loc (by omega) (by decide) hJ⟩
    | 7, ho =>
      obtain rfl := Option.some.inj ho
      exact wp_allocA le0.C zero23 rfl ⟨_, rfl, told_no rfl, nextG (St := (SV W2 (leS s))) (by omega) ⟨hJ.1.alloc _, fun _ => ⟨w2.heap.size, rfl, hJ.1.size, fun _ => Blk.new w2 23 _, fun h => by have h9 : l.getD 8 false = true := h; rw [hnot 8 (by kernel_rfl)] at h9; cases h9⟩⟩⟩
    | 8, ho =>
      obtain rfl := Option.some.inj ho
      have e0 : a'.eval (.tmp 4) = vs 7 := (hin 7 4 (by kernel_rfl) (by kernel_rfl)).1
      have e1 : a'.eval (.tmp 13) = aggV (leS s).C := by have h9 := hin 6 13 (by kernel_rfl) (by kernel_rfl); exact h9.1.trans (told_is _ h9.2 rfl)
      obtain ⟨p, hp, hge, hz0, _⟩ := hJ.2 (hdep 7 (by kernel_rfl))
      exact wp_storeN row23 (.tmp 4) (.tmp 13) rfl rfl p 0 _ (e0.trans hp) e1 rfl (leC_one _) ((hz0 hlf).there (by decide)) ⟨undef, rfl, told_no rfl, nextG (St := (SV W2 (leS s))) (by omega) ⟨hJ.1.setCells _ _ (by omega), fun _ => ⟨p, hp, hge, (fun h => by cases h), fun _ => (hz0 hlf).put rfl⟩⟩⟩
  intro l_ vs4 V4 hl hJ htold
  have t0 : vs4 0 = .slice (some ⟨b1, 1, none⟩) 4 63 := told_is _ (htold 0 (by decide)) rfl
  have t1 : vs4 1 = .int .i64 (ofB 0 ((s.drop 1).take 4)) := told_is _ (htold 1 (by decide)) rfl
  have t2 : vs4 2 = .slice (some ⟨b1, 5, none⟩) 8 59 := told_is _ (htold 2 (by decide)) rfl
  have t3 : vs4 3 = .int .i64 (ofB 0 ((s.drop 5).take 8)) := told_is _ (htold 3 (by decide)) rfl
  have t4 : vs4 4 = .slice (some ⟨b1, 13, none⟩) 8 51 := told_is _ (htold 4 (by decide)) rfl
  have t5 : vs4 5 = .int .i64 (ofB 0 ((s.drop 13).take 8)) := told_is _ (htold 5 (by decide)) rfl
  have t6 : vs4 6 = aggV (leS s).C := told_is _ (htold 6 (by decide)) rfl
  rw [show (List.range 9).map vs4 = [vs4 0, vs4 1, vs4 2, vs4 3, vs4 4, vs4 5, vs4 6, vs4 7, vs4 8] from rfl]
  simp only [t0, t1, t2, t3, t4, t5, t6, putAll, Act.put, List.setIfInBounds_toArray, List.set_cons_succ, List.set_cons_zero]
  clear t0 t1 t2 t3 t4 t5 t6 htold
  obtain ⟨p, ep, hgp, _, hbp⟩ := hJ.2 (hl 7 (by decide))
  replace hbp := hbp (hl 8 (by decide))
  have hb1 : b1 < W2.heap.size := ((unhide M).at 0 _ rfl).lt
  have hb2 : b2 < W2.heap.size := ((unhide M).at 1 _ rfl).lt
  have hwz := (unhide M).kept.size
  replace M : Hid (Mm [] w V4 [(b1, 25, u8s s), (b2, 23, le0.C), (p, 23, (leS s).C)]) := hide (((unhide M).step hJ.1).add hbp (by omega) (fun x hx => by simp at hx; rcases hx with rfl | rfl <;> simp <;> omega))
  rw [ep]
  clear hJ hl ep hgp hbp hb1 hb2 hwz
  go_wp2_with (
    first
    | (refine wpLoadA row23 rfl (.tmp 4) rfl p 0 rfl ((leS s).C) rfl ((unhide M).at 2 _ rfl).range ?_
       refine Stp.go ?_))
  constructor
  go_wp2_with (
    first
    | (go_at_call 8
       refine (unhide (P8 _)).mono ?_
       rintro e W21 ⟨rfl, K21⟩
       replace M : Hid (Mm [] w W21 [(b1, 25, u8s s), (b2, 23, le0.C), (p, 23, (leS s).C)]) := hide ((unhide M).step K21)
       clear K21
       refine Stp.go ?_))
  constructor
  go_wp2_with (
    first
    | (refine wpNew row25 (u8s (zs 64)) (zl 64) zero25 5 rfl rfl rfl (.tmp 17) rfl rfl rfl (u8s q) (by rw [u8s_len]; exact hq) (u8s_one _) (by kernel_rfl) (by kernel_rfl) ?_
       intro W22 b22 e22 B22 K22
       replace M : Hid (Mm [] w W22 [(b1, 25, u8s s), (b2, 23, le0.C), (p, 23, (leS s).C), (b22, 25, u8s q)]) := hide ((unhide M).new e22 B22 K22)
       clear e22 B22 K22
       refine Stp.go ?_))
  constructor
  go_wp2_with (
    first
    | (refine wpLoadG row25 (.tmp 1) rfl rfl b1 0 rfl (u8s s) (by rw [u8s_len]; exact hs.len) ((unhide M).at 0 _ rfl).range ?_
       refine Stp.go ?_))
  constructor
  go_wp2_with (
    first
    | (refine wpLoadG row25 (.tmp 5) rfl rfl b22 0 rfl (u8s q) (by rw [u8s_len]; exact hq) ((unhide M).at 3 _ rfl).range ?_
       refine Stp.go ?_))
  constructor
  go_wp2_with (
    first
    | (refine wpNeqG 25 25 guard25 (.tmp 22) (.tmp 23) rfl rfl (u8s s) (u8s q) rfl rfl false ((equal25 _ s q hs.len hq).trans (by rw [he])) ?_
       refine Stp.go ?_))
  constructor
  go_wp2_with (
    first
    | (refine wpBuildZ (T := 23) le0.C build23 rfl rfl ?_
       refine Stp.go ?_))
  constructor
  go_wp2_with (
    first
    | (refine wpStoreM row23 rfl (.tmp 2) (.tmp 26) rfl rfl b2 1 (le0.C) rfl rfl rfl (leC_one _) (unhide M) rfl rfl ?_
       intro W23 N23
       replace M : Hid (Mm [] w W23 [(b1, 25, u8s s), (b2, 23, le0.C), (p, 23, (leS s).C), (b22, 25, u8s q)]) := hide N23
       clear N23
       refine Stp.go ?_))
  constructor
  go_wp2_with fail
  refine bodyPost_ret (res9 _ b2 le0.C 12 _ rfl rfl rfl ((unhide M).at 1 _ rfl)) rfl ?_
  exact ⟨rfl, (unhide M).kept⟩
set_option maxHeartbeats 2000000 in
theorem get_c (s q : List Int) (c : Int) (w : World) (hs : Byts 64 s) (hq : q.length = 64) (h8 : ∀ W, Calls Try.prog 8 #[aggV (leS s).C] W fun e w' => e = .returned (.tuple #[aggV (u8s q), .int .i64 c]) ∧ Kept [] W w') (hc : ¬ c = 0) : Calls Try.prog 9 #[aggV (u8s s)] w fun x w' => x = .returned (.tuple #[aggV le0.C, .int .i64 12]) ∧ Kept [] w w' := by
  have P8 : ∀ W, Hid (Calls Try.prog 8 #[aggV (leS s).C] W fun e w' => e = .returned (.tuple #[aggV (u8s q), .int .i64 c]) ∧ Kept [] W w') := fun W => hide (h8 W)
  have hdc : (c == 0) = false := by simpa using hc
  have hdn : (c != 0) = true := by simpa using hc
  clear h8
  go_enter Try.func9, Try.ntmps9
  have M : Hid (Mm [] w w []) := hide Mm.init
  go_wp2_with (
    first
    | (refine wpBoxV rfl (.tmp 0) rfl (u8s s) rfl ?_
       intro W1 b1 e1 B1 K1
       replace M : Hid (Mm [] w W1 [(b1, 25, u8s s)]) := hide ((unhide M).new e1 B1 K1)
       clear e1 B1 K1
       refine Stp.go ?_))
  constructor
  go_wp2_with (
    first
    | (refine wpAllocW (le0.C) zero23 2 rfl rfl rfl ?_
       intro W2 b2 e2 B2 K2
       replace M : Hid (Mm [] w W2 [(b1, 25, u8s s), (b2, 23, le0.C)]) := hide ((unhide M).new e2 B2 K2)
       clear e2 B2 K2
       refine Stp.go ?_))
  constructor
  go_wp2_with fail
  refine wp_region_any mixed (wpAny_gx 9 rfl (by kernel_rfl) [some (.slice (some ⟨b1, 1, none⟩) 4 63), some (.int .i64 (ofB 0 ((s.drop 1).take 4))), some (.slice (some ⟨b1, 5, none⟩) 8 59), some (.int .i64 (ofB 0 ((s.drop 5).take 8))), some (.slice (some ⟨b1, 13, none⟩) 8 51), some (.int .i64 (ofB 0 ((s.drop 13).take 8))), some (aggV (leS s).C), none, none] rfl (by kernel_rfl) (fun l vs W => (SV W2 (leS s)) (fun i => l.getD i false) vs W) (⟨⟨rfl, rfl, rfl, Nat.le_refl _, fun _ _ _ => rfl⟩, fun h => by cases h⟩) ?_ ?_)
  · intro ix o' hi ho a' w2 l vs hls hlf hJ hout hin hdep hnot
    match ix, ho with
    | 0, ho =>
      obtain rfl := Option.some.inj ho
      have e0 := hout 1 (by kernel_rfl)
      replace e0 : a'.eval (.tmp 1) = _ := e0.trans rfl
      exact o_sl1 (.tmp 1) rfl b1 e0 ⟨_, rfl, told_of rfl, keepG (St := (SV W2 (leS s))) [7, 8] SV.loc (by omega) (by decide) hJ⟩
    | 1, ho =>
      obtain rfl := Option.some.inj ho
      have e0 : a'.eval (.tmp 7) = .slice (some ⟨b1, 1, none⟩) 4 63 := by have h9 := hin 0 7 (by kernel_rfl) (by kernel_rfl); exact h9.1.trans (told_is _ h9.2 rfl)
      refine wp_callF 26 _ _ rfl #[.slice (some ⟨b1, 1, none⟩) 4 63] (by simp [e0]) (cg26 _ _) ((number26 b1 4 1 (s.take 1) ((s.drop 1).take 4) ((s.drop 1).drop 4) w2 (by have h9 := ((unhide M).step hJ.1).at 0 _ rfl; rw [show s.take 1 ++ (s.drop 1).take 4 ++ (s.drop 1).drop 4 = s by rw [List.append_assoc, List.take_append_drop, List.take_append_drop]]; exact h9) (by rw [List.length_take, hs.len]; rfl) (by rw [List.length_take, List.length_drop, hs.len]; rfl) (fun x hx => hs.byte x (List.mem_of_mem_drop (List.mem_of_mem_take hx))) 63 (by omega)).mono ?_)
      rintro e w3 ⟨rfl, rfl⟩
      exact ⟨_, rfl, _, rfl, told_of rfl, keepG (St := (SV W2 (leS s))) [7, 8] SV.loc (by omega) (by decide) hJ⟩
    | 2, ho =>
      obtain rfl := Option.some.inj ho
      have e0 := hout 1 (by kernel_rfl)
      replace e0 : a'.eval (.tmp 1) = _ := e0.trans rfl
      exact o_sl5 (.tmp 1) rfl b1 e0 ⟨_, rfl, told_of rfl, keepG (St := (SV W2 (leS s))) [7, 8] SV.loc (by omega) (by decide) hJ⟩
    | 3, ho =>
      obtain rfl := Option.some.inj ho
      have e0 : a'.eval (.tmp 9) = .slice (some ⟨b1, 5, none⟩) 8 59 := by have h9 := hin 2 9 (by kernel_rfl) (by kernel_rfl); exact h9.1.trans (told_is _ h9.2 rfl)
      refine wp_callF 26 _ _ rfl #[.slice (some ⟨b1, 5, none⟩) 8 59] (by simp [e0]) (cg26 _ _) ((number26 b1 8 5 (s.take 5) ((s.drop 5).take 8) ((s.drop 5).drop 8) w2 (by have h9 := ((unhide M).step hJ.1).at 0 _ rfl; rw [show s.take 5 ++ (s.drop 5).take 8 ++ (s.drop 5).drop 8 = s by rw [List.append_assoc, List.take_append_drop, List.take_append_drop]]; exact h9) (by rw [List.length_take, hs.len]; rfl) (by rw [List.length_take, List.length_drop, hs.len]; rfl) (fun x hx => hs.byte x (List.mem_of_mem_drop (List.mem_of_mem_take hx))) 59 (by omega)).mono ?_)
      rintro e w3 ⟨rfl, rfl⟩
      exact ⟨_, rfl, _, rfl, told_of rfl, keepG (St := (SV W2 (leS s))) [7, 8] SV.loc (by omega) (by decide) hJ⟩
    | 4, ho =>
      obtain rfl := Option.some.inj ho
      have e0 := hout 1 (by kernel_rfl)
      replace e0 : a'.eval (.tmp 1) = _ := e0.trans rfl
      exact o_sl13 (.tmp 1) rfl b1 e0 ⟨_, rfl, told_of rfl, keepG (St := (SV W2 (leS s))) [7, 8] SV.loc (by omega) (by decide) hJ⟩
    | 5, ho =>
      obtain rfl := Option.some.inj ho
      have e0 : a'.eval (.tmp 11) = .slice (some ⟨b1, 13, none⟩) 8 51 := by have h9 := hin 4 11 (by kernel_rfl) (by kernel_rfl); exact h9.1.trans (told_is _ h9.2 rfl)
      refine wp_callF 26 _ _ rfl #[.slice (some ⟨b1, 13, none⟩) 8 51] (by simp [e0]) (cg26 _ _) ((number26 b1 8 13 (s.take 13) ((s.drop 13).take 8) ((s.drop 13).drop 8) w2 (by have h9 := ((unhide M).step hJ.1).at 0 _ rfl; rw [show s.take 13 ++ (s.drop 13).take 8 ++ (s.drop 13).drop 8 = s by rw [List.append_assoc, List.take_append_drop, List.take_append_drop]]; exact h9) (by rw [List.length_take, hs.len]; rfl) (by rw [List.length_take, List.length_drop, hs.len]; rfl) (fun x hx => hs.byte x (List.mem_of_mem_drop (List.mem_of_mem_take hx))) 51 (by omega)).mono ?_)
      rintro e w3 ⟨rfl, rfl⟩
      exact ⟨_, rfl, _, rfl, told_of rfl, keepG (St := (SV W2 (leS s))) [7, 8] SV.loc (by omega) (by decide) hJ⟩
    | 6, ho =>
      obtain rfl := Option.some.inj ho
      have e0 : a'.eval (.tmp 8) = .int .i64 (ofB 0 ((s.drop 1).take 4)) := by have h9 := hin 1 8 (by kernel_rfl) (by kernel_rfl); exact h9.1.trans (told_is _ h9.2 rfl)
      have e1 : a'.eval (.tmp 10) = .int .i64 (ofB 0 ((s.drop 5).take 8)) := by have h9 := hin 3 10 (by kernel_rfl) (by kernel_rfl); exact h9.1.trans (told_is _ h9.2 rfl)
      have e2 : a'.eval (.tmp 12) = .int .i64 (ofB 0 ((s.drop 13).take 8)) := by have h9 := hin 5 12 (by kernel_rfl) (by kernel_rfl); exact h9.1.trans (told_is _ h9.2 rfl)
      exact o_bld23 (.tmp 8) (.tmp 10) (.tmp 12) rfl _ _ _ e0 e1 e2 ⟨_, rfl, told_of rfl, keepG (St := (SV W2 (leS s))) [7, 8] SV.loc (by omega) (by decide) hJ⟩
    | 7, ho =>
      obtain rfl := Option.some.inj ho
      exact wp_allocA le0.C zero23 rfl ⟨_, rfl, told_no rfl, nextG (St := (SV W2 (leS s))) (by omega) ⟨hJ.1.alloc _, fun _ => ⟨w2.heap.size, rfl, hJ.1.size, fun _ => Blk.new w2 23 _, fun h => by have h9 : l.getD 8 false = true := h; rw [hnot 8 (by kernel_rfl)] at h9; cases h9⟩⟩⟩
    | 8, ho =>
      obtain rfl := Option.some.inj ho
      have e0 : a'.eval (.tmp 4) = vs 7 := (hin 7 4 (by kernel_rfl) (by kernel_rfl)).1
      have e1 : a'.eval (.tmp 13) = aggV (leS s).C := by have h9 := hin 6 13 (by kernel_rfl) (by kernel_rfl); exact h9.1.trans (told_is _ h9.2 rfl)
      obtain ⟨p, hp, hge, hz0, _⟩ := hJ.2 (hdep 7 (by kernel_rfl))
      exact wp_storeN row23 (.tmp 4) (.tmp 13) rfl rfl p 0 _ (e0.trans hp) e1 rfl (leC_one _) ((hz0 hlf).there (by decide)) ⟨undef, rfl, told_no rfl, nextG (St := (SV W2 (leS s))) (by omega) ⟨hJ.1.setCells _ _ (by omega), fun _ => ⟨p, hp, hge, (fun h => by cases h), fun _ => (hz0 hlf).put rfl⟩⟩⟩
  intro l_ vs4 V4 hl hJ htold
  have t0 : vs4 0 = .slice (some ⟨b1, 1, none⟩) 4 63 := told_is _ (htold 0 (by decide)) rfl
  have t1 : vs4 1 = .int .i64 (ofB 0 ((s.drop 1).take 4)) := told_is _ (htold 1 (by decide)) rfl
  have t2 : vs4 2 = .slice (some ⟨b1, 5, none⟩) 8 59 := told_is _ (htold 2 (by decide)) rfl
  have t3 : vs4 3 = .int .i64 (ofB 0 ((s.drop 5).take 8)) := told_is _ (htold 3 (by decide)) rfl
  have t4 : vs4 4 = .slice (some ⟨b1, 13, none⟩) 8 51 := told_is _ (htold 4 (by decide)) rfl
  have t5 : vs4 5 = .int .i64 (ofB 0 ((s.drop 13).take 8)) := told_is _ (htold 5 (by decide)) rfl
  have t6 : vs4 6 = aggV (leS s).C := told_is _ (htold 6 (by decide)) rfl
  rw [show (List.range 9).map vs4 = [vs4 0, vs4 1, vs4 2, vs4 3, vs4 4, vs4 5, vs4 6, vs4 7, vs4 8] from rfl]
  simp only [t0, t1, t2, t3, t4, t5, t6, putAll, Act.put, List.setIfInBounds_toArray, List.set_cons_succ, List.set_cons_zero]
  clear t0 t1 t2 t3 t4 t5 t6 htold
  obtain ⟨p, ep, hgp, _, hbp⟩ := hJ.2 (hl 7 (by decide))
  replace hbp := hbp (hl 8 (by decide))
  have hb1 : b1 < W2.heap.size := ((unhide M).at 0 _ rfl).lt
  have hb2 : b2 < W2.heap.size := ((unhide M).at 1 _ rfl).lt
  have hwz := (unhide M).kept.size
  replace M : Hid (Mm [] w V4 [(b1, 25, u8s s), (b2, 23, le0.C), (p, 23, (leS s).C)]) := hide (((unhide M).step hJ.1).add hbp (by omega) (fun x hx => by simp at hx; rcases hx with rfl | rfl <;> simp <;> omega))
  rw [ep]
  clear hJ hl ep hgp hbp hb1 hb2 hwz
  go_wp2_with (
    first
    | (refine wpLoadA row23 rfl (.tmp 4) rfl p 0 rfl ((leS s).C) rfl ((unhide M).at 2 _ rfl).range ?_
       refine Stp.go ?_))
  constructor
  go_wp2_with (
    first
    | (go_at_call 8
       refine (unhide (P8 _)).mono ?_
       rintro e W21 ⟨rfl, K21⟩
       replace M : Hid (Mm [] w W21 [(b1, 25, u8s s), (b2, 23, le0.C), (p, 23, (leS s).C)]) := hide ((unhide M).step K21)
       clear K21
       refine Stp.go ?_))
  constructor
  go_wp2_with (
    first
    | (refine wpNew row25 (u8s (zs 64)) (zl 64) zero25 5 rfl rfl rfl (.tmp 17) rfl rfl rfl (u8s q) (by rw [u8s_len]; exact hq) (u8s_one _) (by kernel_rfl) (by kernel_rfl) ?_
       intro W22 b22 e22 B22 K22
       replace M : Hid (Mm [] w W22 [(b1, 25, u8s s), (b2, 23, le0.C), (p, 23, (leS s).C), (b22, 25, u8s q)]) := hide ((unhide M).new e22 B22 K22)
       clear e22 B22 K22
       refine Stp.go ?_))
  constructor
  go_wp2_with (
    first
    | (refine wpBuildZ (T := 23) le0.C build23 rfl rfl ?_
       refine Stp.go ?_))
  constructor
  go_wp2_with (
    first
    | (refine wpStoreM row23 rfl (.tmp 2) (.tmp 26) rfl rfl b2 1 (le0.C) rfl rfl rfl (leC_one _) (unhide M) rfl rfl ?_
       intro W23 N23
       replace M : Hid (Mm [] w W23 [(b1, 25, u8s s), (b2, 23, le0.C), (p, 23, (leS s).C), (b22, 25, u8s q)]) := hide N23
       clear N23
       refine Stp.go ?_))
  constructor
  go_wp2_with fail
  refine bodyPost_ret (res9 _ b2 le0.C 12 _ rfl rfl rfl ((unhide M).at 1 _ rfl)) rfl ?_
  exact ⟨rfl, (unhide M).kept⟩
theorem get9 (s : List Int) (w : World) (hs : Byts 64 s) : Calls Try.prog 9 #[aggV (u8s s)] w fun x w' => x = .returned (.tuple #[aggV (getL s).1.C, .int .i64 (getL s).2]) ∧ Kept [] w w' := by
  unfold getL
  have h8 := fun W => put8 (leS s) W
  have hl := putL_len (leS s)
  by_cases hc : (putL (leS s)).2 = 0
  · by_cases he : s = (putL (leS s)).1
    · rw [if_pos (Prod.ext he.symm hc)]
      exact get_a s _ _ w hs hl h8 hc (by simpa using he)
    · rw [if_neg (fun h => he (by rw [h]))]
      exact get_b s _ _ w hs hl h8 hc (by simpa using he)
  · rw [if_neg (fun h => hc (by rw [h]))]
    exact get_c s _ _ w hs hl h8 hc
theorem wrap_two (n x : Int) : wrap64 (wrap64 (n * 256) + x) = wrap64 (n * 256 + x) := by unfold wrap64; omega
set_option maxHeartbeats 2000000 in
theorem rnumber27 (k o : Nat) (s : List Int) (w : World) (hs : Byts 64 s) (ho : o + k ≤ 64) : Calls Try.prog 27 #[aggV (u8s s), .int .i64 o, .int .i64 k] w fun e w' => e = .returned (.int .i64 (ofB 0 ((s.drop o).take k))) ∧ Kept [] w w' := by
  have hkI : (k : Int) ≤ 64 := by omega
  have hoI : (o : Int) ≤ 64 := by omega
  go_enter Try.func27, Try.ntmps27
  have M : Hid (Mm [] w w []) := hide Mm.init
  go_wp2_with (
    first
    | (refine wpBoxV rfl (.tmp 0) rfl (u8s s) rfl ?_
       intro W1 b1 e1 B1 K1
       replace M : Hid (Mm [] w W1 [(b1, 25, u8s s)]) := hide ((unhide M).new e1 B1 K1)
       clear e1 B1 K1
       refine Stp.go ?_))
  constructor
  go_wp2_with fail
  go_loopw [7, 8] (fun xn xi wr => ∃ (j : Nat) (q : Int), j ≤ k ∧ xn = .int .i64 q ∧ xi = .int .i64 j ∧ Hid (I64 q) ∧ Hid (ofB 0 ((s.drop o).take k) = ofB q (((s.drop o).take k).drop j)) ∧ Hid (Mm [] w wr [(b1, 25, u8s s)])) (fun _ i _ => k - (intOf i).toNat)
  case atStart => exact ⟨0, 0, by omega, rfl, rfl, ⟨by decide, by decide⟩, by show _ = _; simp, M⟩
  case round =>
    clear M
    obtain ⟨j, q, hj, rfl, rfl, HQ, HE, M⟩ := hrel
    by_cases hlt : j < k
    · obtain ⟨x, hx⟩ : ∃ x, s[o + j]? = some x := ⟨_, List.getElem?_eq_getElem (by rw [hs.len]; omega)⟩
      have hjk : (j : Int) < (k : Int) := by omega
      have hd : decide ((j : Int) < (k : Int)) = true := by simpa using hjk
      have hx8 := hs.byte x (List.mem_of_getElem? hx)
      have hc : wr.cell? ⟨b1, o + j, none⟩ = some (.int .u8 x) := by
        rw [((unhide M).at 0 _ rfl).cell]
        simp only [u8s, List.getElem?_map]
        rw [hx]
        rfl
      have hq := unhide HQ
      obtain ⟨q1, q2⟩ := hq
      obtain ⟨x1, x2⟩ := hx8
      have HE2 : Hid (ofB 0 ((s.drop o).take k) = ofB (wrap64 (q * 256 + x)) (((s.drop o).take k).drop (j + 1))) := by
        show _ = _
        have h1 : ((s.drop o).take k)[j]? = some x := by rw [List.getElem?_take_of_lt hlt, List.getElem?_drop]; exact hx
        obtain ⟨h2, h3⟩ := List.getElem?_eq_some_iff.1 h1
        rw [unhide HE, List.drop_eq_getElem_cons h2, h3, ofB]
      have hoj : (o : Int) + (j : Int) < 64 := by omega
      have HT : Hid (((o : Int) + (j : Int)).toNat = o + j) := by show _ = _; omega
      clear hx HE
      go_wp2_with fail
      go_roundw
      case rel => exact ⟨j + 1, wrap64 (q * 256 + x), by omega, by rw [wrap_two], by go_num, w64_i _, HE2, M⟩
      case measure => simp [intOf]; omega
    · have hd : decide ((j : Int) < (k : Int)) = false := by simp; omega
      go_wp2_with fail
      go_ret
      have h9 := unhide HE
      have hD : ((s.drop o).take k).drop j = [] := List.drop_of_length_le (by rw [List.length_take]; omega)
      rw [hD, ofB] at h9
      exact ⟨by rw [h9]; rfl, (unhide M).kept⟩

end Go.Proofs.Ythidiolgngkffaa
