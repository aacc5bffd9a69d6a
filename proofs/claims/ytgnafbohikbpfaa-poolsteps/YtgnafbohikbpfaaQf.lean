/-
  A pool: what is found.
-/
import Derived.Test.YtgnafbohikbpfaaQe
namespace Go.Proofs.Ytgnafbohikbpfaa
set_option maxRecDepth 100000
set_option linter.unusedSimpArgs false
open Go.RowKit


variable {w W W' : World} {b mb : Nat} {P Q : Po} {L : List En} {pg : Int} {i : Nat}
theorem Mm.ini {X : List Nat} {T : Nat} {vs : List Value} (h : Blk w b T vs) (hb : b ∈ X) : Mm X w w [(b, T, vs)] := ⟨Kept.refl _ _, (fun x hx => by simp at hx; subst hx; exact h), (fun x hx _ => by simp at hx; subst hx; exact hb), by simp⟩
theorem Mm.stepM {X : List Nat} {w0 W W' : World} {mb : Nat} {L : List En} {bs : List (Nat × Nat × List Value)} (h : Mm X w0 W bs) (hX : mb ∈ X) (hM : MapAt W mb L) (hk : Kept [mb] W W') : Mm X w0 W' bs :=
  ⟨h.kept.trans (hk.mono (fun _ h9 => by simp at h9; subst h9; exact hX)), (fun x hx => (h.blk x hx).kept hk (by intro e; simp at e; exact map_not_cells hM (h.blk x hx) e)), h.own, h.nd⟩
theorem Pg.ne (h : Pg w b mb P L) : b ≠ mb := map_not_cells h.map h.blk
theorem Pg.lk (h : Pg w b mb P L) (hM : MapAt W mb L) (hB : Blk W b 70 (Q.C (.map (some mb)))) (hL : Lk P Q) : Pg W b mb Q L := ⟨hB, hM, hL.ok h.ok, hL.wh h.wh⟩
theorem Pg.i16 (h : Pg w b mb P L) (hf : P.find pg = some i) : i < 16 := by have := (Po.find_some hf).1.1; have := h.ok.m; omega
theorem fnd_some (hf : P.find pg = some i) : P.fnd b pg = .tuple #[.pointer (some ⟨b, i * 104, none⟩), .int .i64 0] := by unfold Po.fnd; rw [hf]
theorem Po.up_ok_drop (k : P.Ok) (i : Nat) : (P.up i pl0).Ok := by
  have hb : ∀ j, (P.up i pl0).busy j → j ≠ i ∧ P.busy j := by
    intro j hj
    have h1 := hj.2
    have e : j ≠ i := fun e => by
      subst e
      apply h1
      show (upd P.S j pl0 j).f.md = 0
      rw [upd_same]; rfl
    refine ⟨e, hj.1, ?_⟩
    have h2 : (upd P.S i pl0 j) = P.S j := upd_ne _ _ e
    rw [← h2]; exact h1
  have hs : ∀ j, j ≠ i → (P.up i pl0).S j = P.S j := fun j e => upd_ne _ _ e
  refine ⟨k.m, k.h, fun j hj => ?_, fun j hj => ?_, fun j l hj hl e => ?_, fun j hj => ?_, fun j hj => ?_⟩
  · by_cases e : j = i
    · subst e; exact upd_same _ _ _
    · rw [hs j e]; exact k.z j hj
  · rw [hs j (hb j hj).1]; exact k.pg j (hb j hj).2
  · rw [hs j (hb j hj).1, hs l (hb l hl).1] at e; exact k.un j l (hb j hj).2 (hb l hl).2 e
  · by_cases e : j = i
    · subst e; exact upd_same _ _ _
    · rw [hs j e] at hj ⊢; exact k.fr j hj
  · rw [hs j (hb j hj).1]; exact k.md j (hb j hj).2
theorem erase_mem {L : List En} {j : Nat} {l x : En} (nd : L.Pairwise (fun a b => ¬ a.k = b.k)) (hj : L[j]? = some l) (hx : x ∈ L) : x ∈ L.eraseIdx j ↔ ¬ x.k = l.k := by
  induction L generalizing j with
  | nil => cases hx
  | cons y L ih =>
    have hp := List.pairwise_cons.1 nd
    cases j with
    | zero =>
      simp at hj
      subst hj
      rw [List.eraseIdx_cons_zero]
      rcases List.mem_cons.1 hx with rfl | hx
      · constructor
        · intro h e; exact hp.1 x h rfl
        · intro h; exact absurd rfl h
      · exact ⟨fun _ e => hp.1 x hx e.symm, fun _ => hx⟩
    | succ j =>
      simp at hj
      rw [List.eraseIdx_cons_succ, List.mem_cons]
      rcases List.mem_cons.1 hx with rfl | hx1
      · exact ⟨fun _ => hp.1 l (List.mem_of_getElem? hj), fun _ => .inl rfl⟩
      · rw [← ih hp.2 hj hx1]
        constructor
        · rintro (e | h)
          · subst e; exact absurd rfl (hp.1 x hx1)
          · exact h
        · exact .inr
theorem Wh.drop (h : Wh P L) (k : P.Ok) {i j : Nat} {l : En} (hi : P.busy i) (hj : L[j]? = some l) (hl : l.k = (P.S i).f.pg) : Wh (P.up i pl0) (L.eraseIdx j) := by
  have hb : ∀ q, (P.up i pl0).busy q ↔ q ≠ i ∧ P.busy q := by
    intro q
    unfold Po.busy
    show q < P.m ∧ ¬ (upd P.S i pl0 q).f.md = 0 ↔ _
    by_cases e : q = i
    · subst e; rw [upd_same]; exact ⟨fun h => absurd rfl h.2, fun h => absurd rfl h.1⟩
    · rw [upd_ne _ _ e]; exact ⟨fun h => ⟨e, h⟩, fun h => h.2⟩
  have hs : ∀ j, j ≠ i → (P.up i pl0).S j = P.S j := fun j e => upd_ne _ _ e
  refine ⟨fun x hx => ?_, fun q hq => ?_, h.nd.sublist (List.eraseIdx_sublist _ _), ?_⟩
  · have hx0 := List.mem_of_mem_eraseIdx hx
    obtain ⟨q, h1, h2, h3⟩ := h.at_ x hx0
    have e : q ≠ i := fun e => by
      subst e
      exact (erase_mem h.nd hj hx0).1 hx (by rw [← h3, hl])
    exact ⟨q, (hb q).2 ⟨e, h1⟩, h2, by rw [hs q e]; exact h3⟩
  · obtain ⟨e, h1⟩ := (hb q).1 hq
    obtain ⟨x, h2, h3, h4⟩ := h.has q h1
    refine ⟨x, (erase_mem h.nd hj h2).2 (fun e2 => e (k.un q i h1 hi (by rw [← h3, e2, hl]))), by rw [hs q e]; exact h3, h4⟩
  · have h1 := cntB_upd P.S i pl0 P.m hi.1
    rw [if_neg hi.2, if_pos (show pl0.f.md = 0 from rfl)] at h1
    have h2 : j < L.length := (List.getElem?_eq_some_iff.1 hj).1
    rw [List.length_eraseIdx_of_lt h2, h.ln]
    show _ = cntB (upd P.S i pl0) P.m
    omega
theorem Po.set_up (P : Po) (mv : Value) {i j : Nat} {v : Value} {x : Pl} (hi : i < 16) (hj : j < 104) (hx : (P.S i).C.set j v = x.C) : (P.C mv).set (i * 104 + j) v = (P.up i x).C mv := P.set_at mv i j hi hj v x hx
theorem Po.up_f {P : Po} {i : Nat} {x : Pl} : ((P.up i x).S i) = x := upd_same _ _ _
set_option maxHeartbeats 1000000 in
theorem look_ok (h : Pg w b mb P L) (hf : P.find pg = some i) : Calls Try.prog 15 #[P0 b, .int .i64 pg] w fun e w' => e = .returned (.tuple #[aggV (P.S i).f.C, .bool true]) ∧ Kept [] w w' := by
  have hi := h.i16 hf
  have hiI : (i : Int) < 16 := by omega
  have hbz := (Po.find_some hf).1
  have hfd := fnd_some (b := b) hf
  have P42 : Hid (∀ W, Kept [] w W → Calls Try.prog 42 #[P0 b, .int .i64 pg] W fun e w' => e = .returned (.tuple #[.pointer (some ⟨b, i * 104, none⟩), .int .i64 0]) ∧ w' = W) := fun W hk => by
    have h9 := find42 W (h.step hk (by simp) (by simp)) pg
    rw [hfd] at h9
    exact h9
  have HP := hide h
  have HB := hide hbz
  have HK := hide (Kept.refl [] w)
  obtain ⟨c0, hc0⟩ : ∃ c, c = P.C (.map (some mb)) := ⟨_, rfl⟩
  obtain ⟨fc, hfc⟩ : ∃ c, c = (P.S i).f.C := ⟨_, rfl⟩
  have HL0 : Hid (c0.length = 1667) := by show _ = _; rw [hc0, Po.len]
  have HLF : Hid (fc.length = 102) := by show _ = _; rw [hfc, Fr.len]
  have HOF : Hid (∀ v ∈ fc, v.oneCell' = true) := by rw [hfc]; exact Fr.one _
  have HR0 : Hid (∀ W, Blk W b 70 c0 → W.rangeAt b (i * 104) fc) := fun W hB => by rw [hc0] at hB; rw [hfc]; exact Po.frameR hB hi
  have M : Hid (Mm [b] w w [(b, 70, c0)]) := Mm.ini (by rw [hc0]; exact h.blk) (by simp)
  have HC0 := hide hc0
  have HFC := hide hfc
  clear hc0 hfc hfd h hf hbz
  go_enter Try.func15, Try.ntmps15
  go_wp2_with (
    first
    | (refine wpAlloc39 4 rfl rfl rfl ?_
       intro W1 g zc e1 B1 z1 K1
       replace M : Hid (Mm [b] w W1 [(b, 70, c0), (g, 39, zc)]) := hide ((unhide M).new e1 B1 K1)
       have HG : Hid (w.heap.size ≤ g) := by have := (unhide HK).size; show _ ≤ _; omega
       have HZL := hide z1
       replace HK := hide ((unhide HK).trans K1)
       clear e1 B1 z1 K1
       refine Stp.go ?_))
  constructor
  go_wp2_with (
    first
    | (go_at_call 42
       refine (unhide P42 _ (unhide HK)).mono ?_
       rintro e W9 ⟨rfl, q9⟩
       replace q9 := q9.symm
       subst q9
       clear P42
       refine Stp.go ?_))
  constructor
  go_wp2_with (
    first
    | (refine wpLoadA row39 rfl (.tmp 19) rfl b (i * 104) rfl fc (unhide HLF) (unhide HR0 _ ((unhide M).at 0 _ rfl)) ?_
       refine Stp.go ?_))
  constructor
  go_wp2_with (
    first
    | (refine wpStN row39 rfl (.tmp 4) (.tmp 20) rfl rfl g 0 1 fc rfl rfl (unhide HLF) (unhide HOF) (unhide M) rfl (by have := unhide HZL; omega) (fun W h9 => h9.put (by rw [unhide HZL, unhide HLF])) ?_
       intro W8 M8
       replace M : Hid (Mm [b] w W8 [(b, 70, c0), (g, 39, fc)]) := hide M8
       clear M8
       refine Stp.go ?_))
  constructor
  go_wp2_with fail
  have g4 := (unhide M).at 1 _ rfl
  refine bodyPost_ret (res15 _ g _ _ _ rfl rfl (unhide HLF) g4) rfl ⟨by rw [unhide HFC], ?_⟩
  exact (unhide M).kept.drop (T := 70) (vs := c0) (by rw [unhide HC0]; exact (unhide HP).blk) ((unhide M).at 0 _ rfl)
set_option maxHeartbeats 1000000 in
theorem get_ok (h : Pg w b mb P L) (hf : P.find pg = some i) : Calls Try.prog 18 #[P0 b, .int .i64 pg] w fun e w' => e = .returned (.tuple #[aggV (P.S i).f.C, .int .i64 0]) ∧ Pg w' b mb (P.up i ⟨(P.S i).f, (P.S i).pn, true⟩) L ∧ Kept [b] w w' := by
  have hi := h.i16 hf
  have hiI : (i : Int) < 16 := by omega
  have hbz := (Po.find_some hf).1
  have hfd := fnd_some (b := b) hf
  have P42 : Hid (∀ W, Kept [] w W → Calls Try.prog 42 #[P0 b, .int .i64 pg] W fun e w' => e = .returned (.tuple #[.pointer (some ⟨b, i * 104, none⟩), .int .i64 0]) ∧ w' = W) := fun W hk => by
    have h9 := find42 W (h.step hk (by simp) (by simp)) pg
    rw [hfd] at h9
    exact h9
  have HP := hide h
  have HB := hide hbz
  have HK := hide (Kept.refl [] w)
  obtain ⟨c0, hc0⟩ : ∃ c, c = P.C (.map (some mb)) := ⟨_, rfl⟩
  obtain ⟨fc, hfc⟩ : ∃ c, c = (P.S i).f.C := ⟨_, rfl⟩
  have HL0 : Hid (c0.length = 1667) := by show _ = _; rw [hc0, Po.len]
  have HLF : Hid (fc.length = 102) := by show _ = _; rw [hfc, Fr.len]
  have HOF : Hid (∀ v ∈ fc, v.oneCell' = true) := by rw [hfc]; exact Fr.one _
  have HR0 : Hid (∀ W, Blk W b 70 c0 → W.rangeAt b (i * 104) fc) := fun W hB => by rw [hc0] at hB; rw [hfc]; exact Po.frameR hB hi
  have M : Hid (Mm [b] w w [(b, 70, c0)]) := Mm.ini (by rw [hc0]; exact h.blk) (by simp)
  obtain ⟨c1, hc1⟩ : ∃ c, c = (P.up i ⟨(P.S i).f, (P.S i).pn, true⟩).C (.map (some mb)) := ⟨_, rfl⟩
  have HS1 : Hid (c0.set (i * 104 + 103) (.bool true) = c1) := by show _ = _; rw [hc0, hc1]; exact P.set_up _ hi (by omega) ((P.S i).set_us true)
  have HR1 : Hid (∀ W, Blk W b 70 c1 → W.rangeAt b (i * 104) fc) := fun W hB => by
    rw [hc1] at hB
    have h9 := Po.frameR (P := P.up i ⟨(P.S i).f, (P.S i).pn, true⟩) hB hi
    rw [Po.up_f] at h9
    rw [hfc]; exact h9
  have HC1 := hide hc1
  clear hc1
  have HC0 := hide hc0
  have HFC := hide hfc
  clear hc0 hfc hfd h hf hbz
  go_enter Try.func18, Try.ntmps18
  go_wp2_with (
    first
    | (refine wpAlloc39 4 rfl rfl rfl ?_
       intro W1 g zc e1 B1 z1 K1
       replace M : Hid (Mm [b] w W1 [(b, 70, c0), (g, 39, zc)]) := hide ((unhide M).new e1 B1 K1)
       have HG : Hid (w.heap.size ≤ g) := by have := (unhide HK).size; show _ ≤ _; omega
       have HZL := hide z1
       replace HK := hide ((unhide HK).trans K1)
       clear e1 B1 z1 K1
       refine Stp.go ?_))
  constructor
  go_wp2_with (
    first
    | (go_at_call 42
       refine (unhide P42 _ (unhide HK)).mono ?_
       rintro e W9 ⟨rfl, q9⟩
       replace q9 := q9.symm
       subst q9
       clear P42
       refine Stp.go ?_))
  constructor
  go_wp2_with (
    first
    | (refine wpSt1 size4 rfl (.tmp 20) (.const (.bool true)) rfl rfl b (i * 104 + 103) 0 (.bool true) ⟨rfl, rfl⟩ rfl rfl (unhide M) rfl (by have := unhide HL0; omega) (unhide HS1) ?_
       intro W7 M7
       replace M : Hid (Mm [b] w W7 [(b, 70, c1), (g, 39, zc)]) := hide M7
       clear M7
       refine Stp.go ?_))
  constructor
  go_wp2_with (
    first
    | (refine wpLoadA row39 rfl (.tmp 23) rfl b (i * 104) rfl fc (unhide HLF) (unhide HR1 _ ((unhide M).at 0 _ rfl)) ?_
       refine Stp.go ?_))
  constructor
  go_wp2_with (
    first
    | (refine wpStN row39 rfl (.tmp 4) (.tmp 24) rfl rfl g 0 1 fc rfl rfl (unhide HLF) (unhide HOF) (unhide M) rfl (by have := unhide HZL; omega) (fun W h9 => h9.put (by rw [unhide HZL, unhide HLF])) ?_
       intro W8 M8
       replace M : Hid (Mm [b] w W8 [(b, 70, c1), (g, 39, fc)]) := hide M8
       clear M8
       refine Stp.go ?_))
  constructor
  go_wp2_with fail
  have kk := (unhide M).kept
  have hM : MapAt _ mb L := (unhide HP).map.kept kk (by have := (unhide HP).ne; simp; exact fun e => this e.symm)
  have hB9 := (unhide M).at 0 _ rfl
  have h9 : Pg _ b mb (P.up i ⟨(P.S i).f, (P.S i).pn, true⟩) L := (unhide HP).lk hM (by rw [← unhide HC1]; exact hB9) (Lk.up (unhide HP).ok rfl (unhide HB).2)
  have g4 := (unhide M).at 1 _ rfl
  exact bodyPost_ret (res18 _ g _ _ _ rfl rfl (unhide HLF) g4) rfl ⟨by rw [unhide HFC], h9, kk⟩
set_option maxHeartbeats 1000000 in
theorem pins_ok (h : Pg w b mb P L) (hf : P.find pg = some i) : Calls Try.prog 16 #[P0 b, .int .i64 pg] w fun e w' => e = .returned (.int .i64 ((P.S i).pn : Int)) ∧ Kept [] w w' := by
  have hi := h.i16 hf
  have hiI : (i : Int) < 16 := by omega
  have hbz := (Po.find_some hf).1
  have hfd := fnd_some (b := b) hf
  have P42 : Hid (∀ W, Kept [] w W → Calls Try.prog 42 #[P0 b, .int .i64 pg] W fun e w' => e = .returned (.tuple #[.pointer (some ⟨b, i * 104, none⟩), .int .i64 0]) ∧ w' = W) := fun W hk => by
    have h9 := find42 W (h.step hk (by simp) (by simp)) pg
    rw [hfd] at h9
    exact h9
  have HP := hide h
  have HB := hide hbz
  have HK := hide (Kept.refl [] w)
  obtain ⟨c0, hc0⟩ : ∃ c, c = P.C (.map (some mb)) := ⟨_, rfl⟩
  obtain ⟨fc, hfc⟩ : ∃ c, c = (P.S i).f.C := ⟨_, rfl⟩
  have HL0 : Hid (c0.length = 1667) := by show _ = _; rw [hc0, Po.len]
  have HLF : Hid (fc.length = 102) := by show _ = _; rw [hfc, Fr.len]
  have HOF : Hid (∀ v ∈ fc, v.oneCell' = true) := by rw [hfc]; exact Fr.one _
  have HR0 : Hid (∀ W, Blk W b 70 c0 → W.rangeAt b (i * 104) fc) := fun W hB => by rw [hc0] at hB; rw [hfc]; exact Po.frameR hB hi
  have M : Hid (Mm [b] w w [(b, 70, c0)]) := Mm.ini (by rw [hc0]; exact h.blk) (by simp)
  have cpn : w.cell? ⟨b, i * 104 + 102, none⟩ = some (.int .i64 ((P.S i).pn : Int)) := h.cpn hi
  have HC0 := hide hc0
  have HFC := hide hfc
  clear hc0 hfc hfd h hf hbz
  go_enter Try.func16, Try.ntmps16
  go_wp2_with (
    first
    | (go_at_call 42
       refine (unhide P42 _ (unhide HK)).mono ?_
       rintro e W9 ⟨rfl, q9⟩
       replace q9 := q9.symm
       subst q9
       clear P42
       refine Stp.go ?_))
  constructor
  go_wp2_with fail
  go_ret
  exact ⟨rfl, unhide HK⟩
set_option maxHeartbeats 1000000 in
theorem pin_ok (h : Pg w b mb P L) (hf : P.find pg = some i) (hp : (P.S i).pn ≤ 1000000) : Calls Try.prog 21 #[P0 b, .int .i64 pg] w fun e w' => e = .returned (.int .i64 0) ∧ Pg w' b mb (P.up i ⟨(P.S i).f, (P.S i).pn + 1, (P.S i).us⟩) L ∧ Kept [b] w w' := by
  have hi := h.i16 hf
  have hiI : (i : Int) < 16 := by omega
  have hbz := (Po.find_some hf).1
  have hfd := fnd_some (b := b) hf
  have P42 : Hid (∀ W, Kept [] w W → Calls Try.prog 42 #[P0 b, .int .i64 pg] W fun e w' => e = .returned (.tuple #[.pointer (some ⟨b, i * 104, none⟩), .int .i64 0]) ∧ w' = W) := fun W hk => by
    have h9 := find42 W (h.step hk (by simp) (by simp)) pg
    rw [hfd] at h9
    exact h9
  have HP := hide h
  have HB := hide hbz
  have HK := hide (Kept.refl [] w)
  obtain ⟨c0, hc0⟩ : ∃ c, c = P.C (.map (some mb)) := ⟨_, rfl⟩
  obtain ⟨fc, hfc⟩ : ∃ c, c = (P.S i).f.C := ⟨_, rfl⟩
  have HL0 : Hid (c0.length = 1667) := by show _ = _; rw [hc0, Po.len]
  have HLF : Hid (fc.length = 102) := by show _ = _; rw [hfc, Fr.len]
  have HOF : Hid (∀ v ∈ fc, v.oneCell' = true) := by rw [hfc]; exact Fr.one _
  have HR0 : Hid (∀ W, Blk W b 70 c0 → W.rangeAt b (i * 104) fc) := fun W hB => by rw [hc0] at hB; rw [hfc]; exact Po.frameR hB hi
  have M : Hid (Mm [b] w w [(b, 70, c0)]) := Mm.ini (by rw [hc0]; exact h.blk) (by simp)
  have cpn : w.cell? ⟨b, i * 104 + 102, none⟩ = some (.int .i64 ((P.S i).pn : Int)) := h.cpn hi
  obtain ⟨c1, hc1⟩ : ∃ c, c = (P.up i ⟨(P.S i).f, (P.S i).pn + 1, (P.S i).us⟩).C (.map (some mb)) := ⟨_, rfl⟩
  have HS1 : Hid (c0.set (i * 104 + 102) (.int .i64 (((P.S i).pn + 1 : Nat) : Int)) = c1) := by show _ = _; rw [hc0, hc1]; exact P.set_up _ hi (by omega) ((P.S i).set_pn _)
  have HR1 : Hid (∀ W, Blk W b 70 c1 → W.rangeAt b (i * 104) fc) := fun W hB => by
    rw [hc1] at hB
    have h9 := Po.frameR (P := P.up i ⟨(P.S i).f, (P.S i).pn + 1, (P.S i).us⟩) hB hi
    rw [Po.up_f] at h9
    rw [hfc]; exact h9
  have HC1 := hide hc1
  clear hc1
  have HC0 := hide hc0
  have HFC := hide hfc
  clear hc0 hfc hfd h hf hbz
  go_enter Try.func21, Try.ntmps21
  go_wp2_with (
    first
    | (go_at_call 42
       refine (unhide P42 _ (unhide HK)).mono ?_
       rintro e W9 ⟨rfl, q9⟩
       replace q9 := q9.symm
       subst q9
       clear P42
       refine Stp.go ?_))
  constructor
  go_wp2_with (
    first
    | (refine wpSt1 size3 rfl (.tmp 22) (.tmp 20) rfl rfl b (i * 104 + 102) 0 (.int .i64 (((P.S i).pn + 1 : Nat) : Int)) ⟨rfl, rfl⟩ rfl rfl (unhide M) rfl (by have := unhide HL0; omega) (unhide HS1) ?_
       intro W7 M7
       replace M : Hid (Mm [b] w W7 [(b, 70, c1)]) := hide M7
       clear M7
       refine Stp.go ?_))
  constructor
  go_wp2_with fail
  have kk := (unhide M).kept
  have hM : MapAt _ mb L := (unhide HP).map.kept kk (by have := (unhide HP).ne; simp; exact fun e => this e.symm)
  have hB9 := (unhide M).at 0 _ rfl
  have h9 : Pg _ b mb (P.up i ⟨(P.S i).f, (P.S i).pn + 1, (P.S i).us⟩) L := (unhide HP).lk hM (by rw [← unhide HC1]; exact hB9) (Lk.up (unhide HP).ok rfl (unhide HB).2)
  go_ret
  exact ⟨rfl, h9, kk⟩
set_option maxHeartbeats 1000000 in
theorem unpin_ok (h : Pg w b mb P L) (hf : P.find pg = some i) (hp : (P.S i).pn ≤ 1000000) (h0 : ¬ (P.S i).pn = 0) : Calls Try.prog 26 #[P0 b, .int .i64 pg] w fun e w' => e = .returned (.int .i64 0) ∧ Pg w' b mb (P.up i ⟨(P.S i).f, (P.S i).pn - 1, (P.S i).us⟩) L ∧ Kept [b] w w' := by
  have hi := h.i16 hf
  have hiI : (i : Int) < 16 := by omega
  have hbz := (Po.find_some hf).1
  have hfd := fnd_some (b := b) hf
  have P42 : Hid (∀ W, Kept [] w W → Calls Try.prog 42 #[P0 b, .int .i64 pg] W fun e w' => e = .returned (.tuple #[.pointer (some ⟨b, i * 104, none⟩), .int .i64 0]) ∧ w' = W) := fun W hk => by
    have h9 := find42 W (h.step hk (by simp) (by simp)) pg
    rw [hfd] at h9
    exact h9
  have HP := hide h
  have HB := hide hbz
  have HK := hide (Kept.refl [] w)
  obtain ⟨c0, hc0⟩ : ∃ c, c = P.C (.map (some mb)) := ⟨_, rfl⟩
  obtain ⟨fc, hfc⟩ : ∃ c, c = (P.S i).f.C := ⟨_, rfl⟩
  have HL0 : Hid (c0.length = 1667) := by show _ = _; rw [hc0, Po.len]
  have HLF : Hid (fc.length = 102) := by show _ = _; rw [hfc, Fr.len]
  have HOF : Hid (∀ v ∈ fc, v.oneCell' = true) := by rw [hfc]; exact Fr.one _
  have HR0 : Hid (∀ W, Blk W b 70 c0 → W.rangeAt b (i * 104) fc) := fun W hB => by rw [hc0] at hB; rw [hfc]; exact Po.frameR hB hi
  have M : Hid (Mm [b] w w [(b, 70, c0)]) := Mm.ini (by rw [hc0]; exact h.blk) (by simp)
  have cpn : w.cell? ⟨b, i * 104 + 102, none⟩ = some (.int .i64 ((P.S i).pn : Int)) := h.cpn hi
  have h0a : (((P.S i).pn : Int) == 0) = false := by simp; exact h0
  have h0b : decide (((P.S i).pn : Int) = 0) = false := by simp; exact h0
  obtain ⟨c1, hc1⟩ : ∃ c, c = (P.up i ⟨(P.S i).f, (P.S i).pn - 1, (P.S i).us⟩).C (.map (some mb)) := ⟨_, rfl⟩
  have HS1 : Hid (c0.set (i * 104 + 102) (.int .i64 (((P.S i).pn - 1 : Nat) : Int)) = c1) := by show _ = _; rw [hc0, hc1]; exact P.set_up _ hi (by omega) ((P.S i).set_pn _)
  have HR1 : Hid (∀ W, Blk W b 70 c1 → W.rangeAt b (i * 104) fc) := fun W hB => by
    rw [hc1] at hB
    have h9 := Po.frameR (P := P.up i ⟨(P.S i).f, (P.S i).pn - 1, (P.S i).us⟩) hB hi
    rw [Po.up_f] at h9
    rw [hfc]; exact h9
  have HC1 := hide hc1
  clear hc1
  have HC0 := hide hc0
  have HFC := hide hfc
  clear hc0 hfc hfd h hf hbz
  go_enter Try.func26, Try.ntmps26
  go_wp2_with (
    first
    | (go_at_call 42
       refine (unhide P42 _ (unhide HK)).mono ?_
       rintro e W9 ⟨rfl, q9⟩
       replace q9 := q9.symm
       subst q9
       clear P42
       refine Stp.go ?_))
  constructor
  go_wp2_with (
    first
    | (refine wpSt1 size3 rfl (.tmp 29) (.tmp 27) rfl rfl b (i * 104 + 102) 0 (.int .i64 (((P.S i).pn - 1 : Nat) : Int)) ⟨rfl, rfl⟩ rfl (congrArg (Value.int .i64) (by omega : ((P.S i).pn : Int) - 1 = (((P.S i).pn - 1 : Nat) : Int))) (unhide M) rfl (by have := unhide HL0; omega) (unhide HS1) ?_
       intro W7 M7
       replace M : Hid (Mm [b] w W7 [(b, 70, c1)]) := hide M7
       clear M7
       refine Stp.go ?_))
  constructor
  go_wp2_with fail
  have kk := (unhide M).kept
  have hM : MapAt _ mb L := (unhide HP).map.kept kk (by have := (unhide HP).ne; simp; exact fun e => this e.symm)
  have hB9 := (unhide M).at 0 _ rfl
  have h9 : Pg _ b mb (P.up i ⟨(P.S i).f, (P.S i).pn - 1, (P.S i).us⟩) L := (unhide HP).lk hM (by rw [← unhide HC1]; exact hB9) (Lk.up (unhide HP).ok rfl (unhide HB).2)
  go_ret
  exact ⟨rfl, h9, kk⟩
set_option maxHeartbeats 1000000 in
theorem unpin0_ok (h : Pg w b mb P L) (hf : P.find pg = some i) (h0 : (P.S i).pn = 0) : Calls Try.prog 26 #[P0 b, .int .i64 pg] w fun e w' => e = .returned (.int .i64 6) ∧ Kept [] w w' := by
  have hi := h.i16 hf
  have hiI : (i : Int) < 16 := by omega
  have hbz := (Po.find_some hf).1
  have hfd := fnd_some (b := b) hf
  have P42 : Hid (∀ W, Kept [] w W → Calls Try.prog 42 #[P0 b, .int .i64 pg] W fun e w' => e = .returned (.tuple #[.pointer (some ⟨b, i * 104, none⟩), .int .i64 0]) ∧ w' = W) := fun W hk => by
    have h9 := find42 W (h.step hk (by simp) (by simp)) pg
    rw [hfd] at h9
    exact h9
  have HP := hide h
  have HB := hide hbz
  have HK := hide (Kept.refl [] w)
  obtain ⟨c0, hc0⟩ : ∃ c, c = P.C (.map (some mb)) := ⟨_, rfl⟩
  obtain ⟨fc, hfc⟩ : ∃ c, c = (P.S i).f.C := ⟨_, rfl⟩
  have HL0 : Hid (c0.length = 1667) := by show _ = _; rw [hc0, Po.len]
  have HLF : Hid (fc.length = 102) := by show _ = _; rw [hfc, Fr.len]
  have HOF : Hid (∀ v ∈ fc, v.oneCell' = true) := by rw [hfc]; exact Fr.one _
  have HR0 : Hid (∀ W, Blk W b 70 c0 → W.rangeAt b (i * 104) fc) := fun W hB => by rw [hc0] at hB; rw [hfc]; exact Po.frameR hB hi
  have M : Hid (Mm [b] w w [(b, 70, c0)]) := Mm.ini (by rw [hc0]; exact h.blk) (by simp)
  have cpn : w.cell? ⟨b, i * 104 + 102, none⟩ = some (.int .i64 0) := by have h9 := h.cpn hi; rw [h0] at h9; exact h9
  clear h0
  have HC0 := hide hc0
  have HFC := hide hfc
  clear hc0 hfc hfd h hf hbz
  go_enter Try.func26, Try.ntmps26
  go_wp2_with (
    first
    | (go_at_call 42
       refine (unhide P42 _ (unhide HK)).mono ?_
       rintro e W9 ⟨rfl, q9⟩
       replace q9 := q9.symm
       subst q9
       clear P42
       refine Stp.go ?_))
  constructor
  go_wp2_with fail
  go_ret
  exact ⟨rfl, unhide HK⟩
theorem Mm.wide {X Y : List Nat} {w0 : World} {bs : List (Nat × Nat × List Value)} (h : Mm X w0 W bs) (hXY : ∀ k ∈ X, k ∈ Y) : Mm Y w0 W bs := ⟨h.kept.mono hXY, h.blk, fun x hx hl => hXY _ (h.own x hx hl), h.nd⟩
set_option maxHeartbeats 1000000 in
theorem drop_ok (h : Pg w b mb P L) (hf : P.find pg = some i) : Calls Try.prog 22 #[P0 b, .int .i64 pg] w fun e w' => e = .returned (.tuple #[aggV (P.S i).f.C, .int .i64 0]) ∧ ∃ L', Pg w' b mb (P.up i pl0) L' ∧ Kept [b, mb] w w' := by
  have hi := h.i16 hf
  have hiI : (i : Int) < 16 := by omega
  have hbz := (Po.find_some hf).1
  have hfd := fnd_some (b := b) hf
  have P42 : Hid (∀ W, Kept [] w W → Calls Try.prog 42 #[P0 b, .int .i64 pg] W fun e w' => e = .returned (.tuple #[.pointer (some ⟨b, i * 104, none⟩), .int .i64 0]) ∧ w' = W) := fun W hk => by
    have h9 := find42 W (h.step hk (by simp) (by simp)) pg
    rw [hfd] at h9
    exact h9
  have HP := hide h
  have HB := hide hbz
  have HK := hide (Kept.refl [] w)
  obtain ⟨c0, hc0⟩ : ∃ c, c = P.C (.map (some mb)) := ⟨_, rfl⟩
  obtain ⟨fc, hfc⟩ : ∃ c, c = (P.S i).f.C := ⟨_, rfl⟩
  have HL0 : Hid (c0.length = 1667) := by show _ = _; rw [hc0, Po.len]
  have HLF : Hid (fc.length = 102) := by show _ = _; rw [hfc, Fr.len]
  have HOF : Hid (∀ v ∈ fc, v.oneCell' = true) := by rw [hfc]; exact Fr.one _
  have HR0 : Hid (∀ W, Blk W b 70 c0 → W.rangeAt b (i * 104) fc) := fun W hB => by rw [hc0] at hB; rw [hfc]; exact Po.frameR hB hi
  have M : Hid (Mm [b] w w [(b, 70, c0)]) := Mm.ini (by rw [hc0]; exact h.blk) (by simp)
  obtain ⟨j, l, hj, _, hlj⟩ : ∃ j l, placeOf pg L 0 = some (j, l) ∧ l.v = (i : Int) ∧ L[j]? = some l := by have h9 := h.wh.look h.ok pg; rw [hf] at h9; exact h9
  have HJ := hide hj
  have HLJ : Hid (L[j]? = some l ∧ l.k = (P.S i).f.pg) := ⟨hlj, by rw [(placeOf_some hj).2.2, (Po.find_some hf).2]⟩
  have HNE : Hid (mb ∉ [b]) := by have h9 := h.ne; show mb ∉ [b]; simp; exact fun e => h9 e.symm
  obtain ⟨pc, hpc⟩ : ∃ c, c = pl0.C := ⟨_, rfl⟩
  have HB66 : Hid (∀ w : World, (Instr.build 66 #[]).run Try.prog w = .ok (aggV pc) w) := fun w => by rw [hpc]; exact build66 w
  have HPL : Hid (pc.length = 104 ∧ ∀ v ∈ pc, v.oneCell' = true) := by rw [hpc]; exact ⟨Pl.len _, Pl.one _⟩
  obtain ⟨c1, hc1⟩ : ∃ c, c = (P.up i pl0).C (.map (some mb)) := ⟨_, rfl⟩
  have HSP : Hid (∀ W, Blk W b 70 c0 → Blk (W.setCells b (i * 104) pc) b 70 c1) := fun W hB => by rw [hc0] at hB; rw [hc1, hpc]; exact Po.placeP hB hi pl0
  have HW1 : Hid (c1[1666]? = some (.map (some mb))) := by show _ = _; rw [hc1]; exact Po.at_w _ _
  have HC1 := hide hc1
  clear hc1 hpc hj hlj
  have HC0 := hide hc0
  have HFC := hide hfc
  clear hc0 hfc hfd h hf hbz
  go_enter Try.func22, Try.ntmps22
  go_wp2_with (
    first
    | (refine wpAlloc39 4 rfl rfl rfl ?_
       intro W1 g zc e1 B1 z1 K1
       replace M : Hid (Mm [b] w W1 [(b, 70, c0), (g, 39, zc)]) := hide ((unhide M).new e1 B1 K1)
       have HG : Hid (w.heap.size ≤ g) := by have := (unhide HK).size; show _ ≤ _; omega
       have HZL := hide z1
       replace HK := hide ((unhide HK).trans K1)
       clear e1 B1 z1 K1
       refine Stp.go ?_))
  constructor
  go_wp2_with (
    first
    | (go_at_call 42
       refine (unhide P42 _ (unhide HK)).mono ?_
       rintro e W9 ⟨rfl, q9⟩
       replace q9 := q9.symm
       subst q9
       clear P42
       refine Stp.go ?_))
  constructor
  go_wp2_with (
    first
    | (refine wpLoadA row39 rfl (.tmp 21) rfl b (i * 104) rfl fc (unhide HLF) (unhide HR0 _ ((unhide M).at 0 _ rfl)) ?_
       refine Stp.go ?_))
  constructor
  go_wp2_with (
    first
    | (refine wpNew row39 fr0.C fr0.len zero39 8 rfl rfl rfl (.tmp 22) rfl rfl rfl fc (unhide HLF) (unhide HOF) (by kernel_rfl) (by kernel_rfl) ?_
       intro W2 g2 e2 B2 K2
       replace M : Hid (Mm [b] w W2 [(b, 70, c0), (g, 39, zc), (g2, 39, fc)]) := hide ((unhide M).new e2 B2 K2)
       clear e2 B2 K2
       refine Stp.go ?_))
  constructor
  go_wp2_with (
    first
    | (refine wpBuildZ pc (unhide HB66) rfl rfl ?_
       refine Stp.go ?_))
  constructor
  go_wp2_with (
    first
    | (refine wpStN row66 rfl (.tmp 25) (.tmp 24) rfl rfl b (i * 104) 0 pc rfl rfl (unhide HPL).1 (unhide HPL).2 (unhide M) rfl (by have := unhide HL0; omega) (unhide HSP) ?_
       intro W3 M3
       replace M : Hid (Mm [b] w W3 [(b, 70, c1), (g, 39, zc), (g2, 39, fc)]) := hide M3
       clear M3
       refine Stp.go ?_))
  constructor
  go_wp2_with (
    first
    | (refine wpLd68 rfl (.tmp 28) rfl ⟨b, 1666, none⟩ (.map (some mb)) rfl (fits_cell ((unhide M).at 0 _ rfl) 1666 _ (unhide HW1)) ?_
       refine Stp.go ?_))
  constructor
  go_wp2_with (
    first
    | (refine wpDel rfl (.tmp 29) (.tmp 30) rfl mb L pg j l rfl rfl ((unhide HP).map.kept (unhide M).kept (unhide HNE)) (unhide HJ) ?_
       intro W5 hm5 k5
       replace M : Hid (Mm [b, mb] w W5 [(b, 70, c1), (g, 39, zc), (g2, 39, fc)]) := hide (((unhide M).wide (fun k hk => by simp at hk; simp [hk])).stepM (by simp) ((unhide HP).map.kept (unhide M).kept (unhide HNE)) k5)
       have HM5 := hide hm5
       have HG2 : Hid (mb ≠ g) := fun e => absurd (unhide HP).map.lt (Nat.not_lt.2 (by rw [e]; exact unhide HG))
       clear hm5 k5
       refine Stp.go ?_))
  constructor
  go_wp2_with (
    first
    | (refine wpLoadA row39 rfl (.tmp 8) rfl g2 0 rfl fc (unhide HLF) ((unhide M).at 2 _ rfl).range ?_
       refine Stp.go ?_))
  constructor
  go_wp2_with (
    first
    | (refine wpStoreA row39 rfl (.tmp 4) (.tmp 31) rfl g 0 fc rfl rfl (unhide HLF) (unhide HOF) (((unhide M).at 1 _ rfl).there (by have := unhide HZL; show 0 + 102 ≤ zc.length; omega)) ?_
       refine Stp.go ?_))
  constructor
  go_wp2_with fail
  have M9 := (unhide M).sets 1 rfl fc (by rw [unhide HZL, unhide HLF])
  have g4 := M9.at 1 _ rfl
  have hB9 := M9.at 0 _ rfl
  have h9 : Pg _ b mb (P.up i pl0) (L.eraseIdx j) := ⟨by rw [← unhide HC1]; exact hB9, (unhide HM5).kept ((Kept.refl [g] _).setCells _ _ (by simp)) (by simp; exact unhide HG2), Po.up_ok_drop (unhide HP).ok i, (unhide HP).wh.drop (unhide HP).ok (unhide HB) (unhide HLJ).1 (unhide HLJ).2⟩
  exact bodyPost_ret (res22 _ g _ _ _ rfl rfl (unhide HLF) g4) rfl ⟨by rw [unhide HFC], _, h9, M9.kept⟩

end Go.Proofs.Ytgnafbohikbpfaa
