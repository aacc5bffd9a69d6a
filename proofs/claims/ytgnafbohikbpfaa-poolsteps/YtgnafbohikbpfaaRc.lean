/-
  The document's pool: look, pins, get, drop, pin.
-/
import Derived.Test.YtgnafbohikbpfaaRa
namespace Go.Proofs.Ytgnafbohikbpfaa
set_option maxRecDepth 100000
set_option linter.unusedSimpArgs false
open Go.RowKit


variable {w0 w W W' : World} {b g c mb : Nat} {P Q : Po} {L : List En} {pg : Int} {q k i : Nat}
theorem Rg.fr (h : Rg W b g c P) (hk : k < P.m) : W.rangeAt g (k * 105 + 1) (P.S k).f.C := h.frR hk
theorem rfnd_some (hf : P.find pg = some i) : P.rfnd pg = (i : Int) := by unfold Po.rfnd; rw [hf]
theorem rfnd_none (hf : P.find pg = none) : P.rfnd pg = -1 := by unfold Po.rfnd; rw [hf]
theorem Rg.upx {x : Pl} {bc c1 post : List Value} (h : Rg w b g c P) (hB : Blk W b 73 bc) (e : bc = [.slice (some ⟨g, 0, none⟩) P.m c, .int .i64 (P.h : Int)]) (hG : Blk W g 84 c1) (e1 : c1 = plsD (P.up i x).S P.m ++ post) (hO : Po.Ok (P.up i x)) : Rg W b g c (P.up i x) := by
  subst e e1
  exact ⟨hB, ⟨post, hG⟩, hO, h.cm⟩
theorem res37 (w : World) (z : Nat) (vs : List Value) (e : Bool) (tmps : Array Value) (h4 : tmps[4]?.getD undef = P0 z) (h5 : tmps[5]?.getD undef = .bool e) (hl : vs.length = 102) (hb : Blk w z 39 vs) : (results Try.f37 tmps).run Try.prog w = .ok (.tuple #[aggV vs, .bool e]) w := by
  have := loadV row39 hl hb
  simp [results, Try.results37, h4, h5, this, asAddr]
theorem res29 (w : World) (z : Nat) (vs : List Value) (e : Int) (tmps : Array Value) (h4 : tmps[4]?.getD undef = P0 z) (h5 : tmps[5]?.getD undef = .int .i64 e) (hl : vs.length = 102) (hb : Blk w z 39 vs) : (results Try.f29 tmps).run Try.prog w = .ok (.tuple #[aggV vs, .int .i64 e]) w := by
  have := loadV row39 hl hb
  simp [results, Try.results29, h4, h5, this, asAddr]
theorem res30 (w : World) (z : Nat) (vs : List Value) (e : Int) (tmps : Array Value) (h4 : tmps[4]?.getD undef = P0 z) (h5 : tmps[5]?.getD undef = .int .i64 e) (hl : vs.length = 102) (hb : Blk w z 39 vs) : (results Try.f30 tmps).run Try.prog w = .ok (.tuple #[aggV vs, .int .i64 e]) w := by
  have := loadV row39 hl hb
  simp [results, Try.results30, h4, h5, this, asAddr]
theorem rlook_z (w : World) (pg : Int) : Calls Try.prog 37 #[.pointer none, .int .i64 pg] w fun e w' => e = .returned (.tuple #[aggV fr0.C, .bool false]) ∧ Kept [] w w' := by
  have HK := hide (Kept.refl [] w)
  have P48 : Hid (∀ W, Kept [] w W → Calls Try.prog 48 #[.pointer none, .int .i64 pg] W fun e w' => e = .returned (.int .i64 (-1)) ∧ w' = W) := fun W _ => find48_z W pg
  go_enter Try.func37, Try.ntmps37
  go_wp2_with (
    first
    | (refine wpAlloc39 4 rfl rfl rfl ?_
       intro W1 gg zc e1 B1 z1 K1
       have HB := hide B1
       have HZL := hide z1
       have HG : Hid (w.heap.size ≤ gg) := by have := (unhide HK).size; show _ ≤ _; omega
       replace HK := hide ((unhide HK).trans K1)
       clear e1 B1 z1 K1
       refine Stp.go ?_))
  constructor
  go_wp2_with (
    first
    | (go_at_call 48
       refine (unhide P48 _ (unhide HK)).mono ?_
       rintro e W9 ⟨rfl, q9⟩
       replace q9 := q9.symm
       subst q9
       clear P48
       refine Stp.go ?_))
  constructor
  go_wp2_with (
    first
    | (refine wpBuildZ fr0.C build39 rfl rfl ?_
       refine Stp.go ?_))
  constructor
  go_wp2_with (
    first
    | (refine wpStoreA row39 rfl (.tmp 4) (.tmp 12) rfl gg 0 fr0.C rfl rfl fr0.len fr0.one ((unhide HB).there (by have := unhide HZL; omega)) ?_
       refine Stp.go ?_))
  constructor
  go_wp2_with fail
  have g4 := (unhide HB).put (vs := fr0.C) (by rw [unhide HZL, fr0.len])
  refine bodyPost_ret (res37 _ _ _ _ _ rfl rfl fr0.len g4) rfl ⟨rfl, (unhide HK).setCells _ _ (fun hl => absurd hl (Nat.not_lt.2 (unhide HG)))⟩
theorem rlook_no (w : World) (h : Rg w b g c P) (pg : Int) (hf : P.find pg = none) : Calls Try.prog 37 #[P0 b, .int .i64 pg] w fun e w' => e = .returned (.tuple #[aggV fr0.C, .bool false]) ∧ Kept [] w w' := by
  have HK := hide (Kept.refl [] w)
  have P48 : Hid (∀ W, Kept [] w W → Calls Try.prog 48 #[P0 b, .int .i64 pg] W fun e w' => e = .returned (.int .i64 (-1)) ∧ w' = W) := fun W hk => by
    have h9 := find48 W (h.step hk (by simp) (by simp)) pg
    rw [rfnd_none hf] at h9
    exact h9
  clear h hf
  go_enter Try.func37, Try.ntmps37
  go_wp2_with (
    first
    | (refine wpAlloc39 4 rfl rfl rfl ?_
       intro W1 gg zc e1 B1 z1 K1
       have HB := hide B1
       have HZL := hide z1
       have HG : Hid (w.heap.size ≤ gg) := by have := (unhide HK).size; show _ ≤ _; omega
       replace HK := hide ((unhide HK).trans K1)
       clear e1 B1 z1 K1
       refine Stp.go ?_))
  constructor
  go_wp2_with (
    first
    | (go_at_call 48
       refine (unhide P48 _ (unhide HK)).mono ?_
       rintro e W9 ⟨rfl, q9⟩
       replace q9 := q9.symm
       subst q9
       clear P48
       refine Stp.go ?_))
  constructor
  go_wp2_with (
    first
    | (refine wpBuildZ fr0.C build39 rfl rfl ?_
       refine Stp.go ?_))
  constructor
  go_wp2_with (
    first
    | (refine wpStoreA row39 rfl (.tmp 4) (.tmp 12) rfl gg 0 fr0.C rfl rfl fr0.len fr0.one ((unhide HB).there (by have := unhide HZL; omega)) ?_
       refine Stp.go ?_))
  constructor
  go_wp2_with fail
  have g4 := (unhide HB).put (vs := fr0.C) (by rw [unhide HZL, fr0.len])
  refine bodyPost_ret (res37 _ _ _ _ _ rfl rfl fr0.len g4) rfl ⟨rfl, (unhide HK).setCells _ _ (fun hl => absurd hl (Nat.not_lt.2 (unhide HG)))⟩
theorem rpins_z (w : World) (pg : Int) : Calls Try.prog 38 #[.pointer none, .int .i64 pg] w fun e w' => e = .returned (.int .i64 0) ∧ Kept [] w w' := by
  have HK := hide (Kept.refl [] w)
  have P48 : Hid (∀ W, Kept [] w W → Calls Try.prog 48 #[.pointer none, .int .i64 pg] W fun e w' => e = .returned (.int .i64 (-1)) ∧ w' = W) := fun W _ => find48_z W pg
  go_enter Try.func38, Try.ntmps38
  go_wp2_with (
    first
    | (go_at_call 48
       refine (unhide P48 _ (unhide HK)).mono ?_
       rintro e W9 ⟨rfl, q9⟩
       replace q9 := q9.symm
       subst q9
       clear P48
       refine Stp.go ?_))
  constructor
  go_wp2_with fail
  go_ret
  exact ⟨rfl, unhide HK⟩
theorem rpins_no (w : World) (h : Rg w b g c P) (pg : Int) (hf : P.find pg = none) : Calls Try.prog 38 #[P0 b, .int .i64 pg] w fun e w' => e = .returned (.int .i64 0) ∧ Kept [] w w' := by
  have HK := hide (Kept.refl [] w)
  have P48 : Hid (∀ W, Kept [] w W → Calls Try.prog 48 #[P0 b, .int .i64 pg] W fun e w' => e = .returned (.int .i64 (-1)) ∧ w' = W) := fun W hk => by
    have h9 := find48 W (h.step hk (by simp) (by simp)) pg
    rw [rfnd_none hf] at h9
    exact h9
  clear h hf
  go_enter Try.func38, Try.ntmps38
  go_wp2_with (
    first
    | (go_at_call 48
       refine (unhide P48 _ (unhide HK)).mono ?_
       rintro e W9 ⟨rfl, q9⟩
       replace q9 := q9.symm
       subst q9
       clear P48
       refine Stp.go ?_))
  constructor
  go_wp2_with fail
  go_ret
  exact ⟨rfl, unhide HK⟩
theorem rget_z (w : World) (pg : Int) : Calls Try.prog 29 #[.pointer none, .int .i64 pg] w fun e w' => e = .returned (.tuple #[aggV fr0.C, .int .i64 1]) ∧ Kept [] w w' := by
  have HK := hide (Kept.refl [] w)
  have P48 : Hid (∀ W, Kept [] w W → Calls Try.prog 48 #[.pointer none, .int .i64 pg] W fun e w' => e = .returned (.int .i64 (-1)) ∧ w' = W) := fun W _ => find48_z W pg
  go_enter Try.func29, Try.ntmps29
  go_wp2_with (
    first
    | (refine wpAlloc39 4 rfl rfl rfl ?_
       intro W1 gg zc e1 B1 z1 K1
       have HB := hide B1
       have HZL := hide z1
       have HG : Hid (w.heap.size ≤ gg) := by have := (unhide HK).size; show _ ≤ _; omega
       replace HK := hide ((unhide HK).trans K1)
       clear e1 B1 z1 K1
       refine Stp.go ?_))
  constructor
  go_wp2_with (
    first
    | (refine wpBuildZ fr0.C build39 rfl rfl ?_
       refine Stp.go ?_))
  constructor
  go_wp2_with (
    first
    | (refine wpStoreA row39 rfl (.tmp 4) (.tmp 9) rfl gg 0 fr0.C rfl rfl fr0.len fr0.one ((unhide HB).there (by have := unhide HZL; omega)) ?_
       refine Stp.go ?_))
  constructor
  go_wp2_with fail
  have g4 := (unhide HB).put (vs := fr0.C) (by rw [unhide HZL, fr0.len])
  refine bodyPost_ret (res29 _ _ _ _ _ rfl rfl fr0.len g4) rfl ⟨rfl, (unhide HK).setCells _ _ (fun hl => absurd hl (Nat.not_lt.2 (unhide HG)))⟩
theorem rget_no (w : World) (h : Rg w b g c P) (pg : Int) (hf : P.find pg = none) : Calls Try.prog 29 #[P0 b, .int .i64 pg] w fun e w' => e = .returned (.tuple #[aggV fr0.C, .int .i64 6]) ∧ Kept [] w w' := by
  have HK := hide (Kept.refl [] w)
  have P48 : Hid (∀ W, Kept [] w W → Calls Try.prog 48 #[P0 b, .int .i64 pg] W fun e w' => e = .returned (.int .i64 (-1)) ∧ w' = W) := fun W hk => by
    have h9 := find48 W (h.step hk (by simp) (by simp)) pg
    rw [rfnd_none hf] at h9
    exact h9
  clear h hf
  go_enter Try.func29, Try.ntmps29
  go_wp2_with (
    first
    | (refine wpAlloc39 4 rfl rfl rfl ?_
       intro W1 gg zc e1 B1 z1 K1
       have HB := hide B1
       have HZL := hide z1
       have HG : Hid (w.heap.size ≤ gg) := by have := (unhide HK).size; show _ ≤ _; omega
       replace HK := hide ((unhide HK).trans K1)
       clear e1 B1 z1 K1
       refine Stp.go ?_))
  constructor
  go_wp2_with (
    first
    | (go_at_call 48
       refine (unhide P48 _ (unhide HK)).mono ?_
       rintro e W9 ⟨rfl, q9⟩
       replace q9 := q9.symm
       subst q9
       clear P48
       refine Stp.go ?_))
  constructor
  go_wp2_with (
    first
    | (refine wpBuildZ fr0.C build39 rfl rfl ?_
       refine Stp.go ?_))
  constructor
  go_wp2_with (
    first
    | (refine wpStoreA row39 rfl (.tmp 4) (.tmp 15) rfl gg 0 fr0.C rfl rfl fr0.len fr0.one ((unhide HB).there (by have := unhide HZL; omega)) ?_
       refine Stp.go ?_))
  constructor
  go_wp2_with fail
  have g4 := (unhide HB).put (vs := fr0.C) (by rw [unhide HZL, fr0.len])
  refine bodyPost_ret (res29 _ _ _ _ _ rfl rfl fr0.len g4) rfl ⟨rfl, (unhide HK).setCells _ _ (fun hl => absurd hl (Nat.not_lt.2 (unhide HG)))⟩
theorem rdrop_z (w : World) (pg : Int) : Calls Try.prog 30 #[.pointer none, .int .i64 pg] w fun e w' => e = .returned (.tuple #[aggV fr0.C, .int .i64 1]) ∧ Kept [] w w' := by
  have HK := hide (Kept.refl [] w)
  have P48 : Hid (∀ W, Kept [] w W → Calls Try.prog 48 #[.pointer none, .int .i64 pg] W fun e w' => e = .returned (.int .i64 (-1)) ∧ w' = W) := fun W _ => find48_z W pg
  go_enter Try.func30, Try.ntmps30
  go_wp2_with (
    first
    | (refine wpAlloc39 4 rfl rfl rfl ?_
       intro W1 gg zc e1 B1 z1 K1
       have HB := hide B1
       have HZL := hide z1
       have HG : Hid (w.heap.size ≤ gg) := by have := (unhide HK).size; show _ ≤ _; omega
       replace HK := hide ((unhide HK).trans K1)
       clear e1 B1 z1 K1
       refine Stp.go ?_))
  constructor
  go_wp2_with (
    first
    | (refine wpBuildZ fr0.C build39 rfl rfl ?_
       refine Stp.go ?_))
  constructor
  go_wp2_with (
    first
    | (refine wpStoreA row39 rfl (.tmp 4) (.tmp 10) rfl gg 0 fr0.C rfl rfl fr0.len fr0.one ((unhide HB).there (by have := unhide HZL; omega)) ?_
       refine Stp.go ?_))
  constructor
  go_wp2_with fail
  have g4 := (unhide HB).put (vs := fr0.C) (by rw [unhide HZL, fr0.len])
  refine bodyPost_ret (res30 _ _ _ _ _ rfl rfl fr0.len g4) rfl ⟨rfl, (unhide HK).setCells _ _ (fun hl => absurd hl (Nat.not_lt.2 (unhide HG)))⟩
theorem rdrop_no (w : World) (h : Rg w b g c P) (pg : Int) (hf : P.find pg = none) : Calls Try.prog 30 #[P0 b, .int .i64 pg] w fun e w' => e = .returned (.tuple #[aggV fr0.C, .int .i64 6]) ∧ Kept [] w w' := by
  have HK := hide (Kept.refl [] w)
  have P48 : Hid (∀ W, Kept [] w W → Calls Try.prog 48 #[P0 b, .int .i64 pg] W fun e w' => e = .returned (.int .i64 (-1)) ∧ w' = W) := fun W hk => by
    have h9 := find48 W (h.step hk (by simp) (by simp)) pg
    rw [rfnd_none hf] at h9
    exact h9
  clear h hf
  go_enter Try.func30, Try.ntmps30
  go_wp2_with (
    first
    | (refine wpAlloc39 4 rfl rfl rfl ?_
       intro W1 gg zc e1 B1 z1 K1
       have HB := hide B1
       have HZL := hide z1
       have HG : Hid (w.heap.size ≤ gg) := by have := (unhide HK).size; show _ ≤ _; omega
       replace HK := hide ((unhide HK).trans K1)
       clear e1 B1 z1 K1
       refine Stp.go ?_))
  constructor
  go_wp2_with (
    first
    | (go_at_call 48
       refine (unhide P48 _ (unhide HK)).mono ?_
       rintro e W9 ⟨rfl, q9⟩
       replace q9 := q9.symm
       subst q9
       clear P48
       refine Stp.go ?_))
  constructor
  go_wp2_with (
    first
    | (refine wpBuildZ fr0.C build39 rfl rfl ?_
       refine Stp.go ?_))
  constructor
  go_wp2_with (
    first
    | (refine wpStoreA row39 rfl (.tmp 4) (.tmp 16) rfl gg 0 fr0.C rfl rfl fr0.len fr0.one ((unhide HB).there (by have := unhide HZL; omega)) ?_
       refine Stp.go ?_))
  constructor
  go_wp2_with fail
  have g4 := (unhide HB).put (vs := fr0.C) (by rw [unhide HZL, fr0.len])
  refine bodyPost_ret (res30 _ _ _ _ _ rfl rfl fr0.len g4) rfl ⟨rfl, (unhide HK).setCells _ _ (fun hl => absurd hl (Nat.not_lt.2 (unhide HG)))⟩
theorem rpin_z (w : World) (pg : Int) (d : Int) : Calls Try.prog 31 #[.pointer none, .int .i64 pg, .int .i64 d] w fun e w' => e = .returned (.int .i64 1) ∧ Kept [] w w' := by
  have HK := hide (Kept.refl [] w)
  have P48 : Hid (∀ W, Kept [] w W → Calls Try.prog 48 #[.pointer none, .int .i64 pg] W fun e w' => e = .returned (.int .i64 (-1)) ∧ w' = W) := fun W _ => find48_z W pg
  go_enter Try.func31, Try.ntmps31
  go_wp2_with fail
  go_ret
  exact ⟨rfl, unhide HK⟩
theorem rpin_no (w : World) (h : Rg w b g c P) (pg : Int) (d : Int) (hf : P.find pg = none) : Calls Try.prog 31 #[P0 b, .int .i64 pg, .int .i64 d] w fun e w' => e = .returned (.int .i64 6) ∧ Kept [] w w' := by
  have HK := hide (Kept.refl [] w)
  have P48 : Hid (∀ W, Kept [] w W → Calls Try.prog 48 #[P0 b, .int .i64 pg] W fun e w' => e = .returned (.int .i64 (-1)) ∧ w' = W) := fun W hk => by
    have h9 := find48 W (h.step hk (by simp) (by simp)) pg
    rw [rfnd_none hf] at h9
    exact h9
  clear h hf
  go_enter Try.func31, Try.ntmps31
  go_wp2_with (
    first
    | (go_at_call 48
       refine (unhide P48 _ (unhide HK)).mono ?_
       rintro e W9 ⟨rfl, q9⟩
       replace q9 := q9.symm
       subst q9
       clear P48
       refine Stp.go ?_))
  constructor
  go_wp2_with fail
  go_ret
  exact ⟨rfl, unhide HK⟩
set_option maxHeartbeats 1000000 in
theorem rlook_ok (h : Rg w b g c P) (hf : P.find pg = some i) : Calls Try.prog 37 #[P0 b, .int .i64 pg] w fun e w' => e = .returned (.tuple #[aggV (P.S i).f.C, .bool true]) ∧ Kept [] w w' := by
  have him := (Po.find_some hf).1.1
  have hiI : (i : Int) < (P.m : Int) := by omega
  have hm16 := h.ok.m
  have hcm := h.cm
  have hn0 : ¬ ((i : Int) < 0) := by omega
  have hd0 : decide ((i : Int) < 0) = false := decide_eq_false hn0
  have P48 : Hid (∀ W, Kept [] w W → Calls Try.prog 48 #[P0 b, .int .i64 pg] W fun e w' => e = .returned (.int .i64 (i : Int)) ∧ w' = W) := fun W hk => by
    have h9 := find48 W (h.step hk (by simp) (by simp)) pg
    rw [rfnd_some hf] at h9
    exact h9
  have HP := hide h
  have HF := hide hf
  have HK := hide (Kept.refl [] w)
  obtain ⟨post, hpo⟩ := h.row
  obtain ⟨c0, hc0⟩ : ∃ c, c = plsD P.S P.m ++ post := ⟨_, rfl⟩
  obtain ⟨fc, hfc⟩ : ∃ c, c = (P.S i).f.C := ⟨_, rfl⟩
  obtain ⟨bc, hbc⟩ : ∃ x, x = [Value.slice (some ⟨g, 0, none⟩) P.m c, .int .i64 (P.h : Int)] := ⟨_, rfl⟩
  have HLF : Hid (fc.length = 102) := by show _ = _; rw [hfc, Fr.len]
  have HOF : Hid (∀ v ∈ fc, v.oneCell' = true) := by rw [hfc]; exact Fr.one _
  have HL0 : Hid (P.m * 105 ≤ c0.length) := by show _ ≤ _; rw [hc0, List.length_append, plsD_len]; omega
  have HR : Hid (∀ W, Blk W g 84 c0 → W.rangeAt g (i * 105 + 1) fc) := fun W hB => by
    rw [hfc]
    refine hB.rangeIn _ (fun j hj => ?_)
    rw [Fr.len] at hj
    rw [hc0, Nat.add_assoc, plsD_at _ _ _ _ _ him (by omega), (P.S i).D_f j hj]
  have HB0 : Hid (bc[0]? = some (.slice (some ⟨g, 0, none⟩) P.m c)) := by rw [hbc]; rfl
  have M : Hid (Mm [b, g] w w [(b, 73, bc), (g, 84, c0)]) := Mm.two (by rw [hbc]; exact h.bk) (by rw [hc0]; exact hpo) h.ne
  have HC0 := hide hc0
  have HFC := hide hfc
  have HBC := hide hbc
  clear hc0 hfc hbc h hf hpo
  go_enter Try.func37, Try.ntmps37
  go_wp2_with (
    first
    | (refine wpAlloc39 4 rfl rfl rfl ?_
       intro W1 gg zc e1 B1 z1 K1
       have HB := hide B1
       have HZL := hide z1
       have HG : Hid (w.heap.size ≤ gg) := by have := (unhide HK).size; show _ ≤ _; omega
       replace HK := hide ((unhide HK).trans K1)
       have cs := ((unhide HP).step (unhide HK) (by simp) (by simp)).cs
       clear e1 B1 z1 K1
       refine Stp.go ?_))
  constructor
  go_wp2_with (
    first
    | (go_at_call 48
       refine (unhide P48 _ (unhide HK)).mono ?_
       rintro e W9 ⟨rfl, q9⟩
       replace q9 := q9.symm
       subst q9
       clear P48
       refine Stp.go ?_))
  constructor
  go_wp2_with (
    first
    | (refine wpLoadA row39 rfl (.tmp 19) rfl g (i * 105 + 1) rfl fc (unhide HLF) (by rw [unhide HFC]; exact ((unhide HP).step (unhide HK) (by simp) (by simp)).frR (Po.find_some (unhide HF)).1.1) ?_
       refine Stp.go ?_))
  constructor
  go_wp2_with (
    first
    | (refine wpStoreA row39 rfl (.tmp 4) (.tmp 20) rfl gg 0 fc rfl rfl (unhide HLF) (unhide HOF) ((unhide HB).there (by have := unhide HZL; omega)) ?_
       refine Stp.go ?_))
  constructor
  go_wp2_with fail
  have g4 := (unhide HB).put (vs := fc) (by rw [unhide HZL, unhide HLF])
  refine bodyPost_ret (res37 _ _ _ _ _ rfl rfl (unhide HLF) g4) rfl ⟨by rw [unhide HFC], (unhide HK).setCells _ _ (fun hl => absurd hl (Nat.not_lt.2 (unhide HG)))⟩
set_option maxHeartbeats 1000000 in
theorem rpins_ok (h : Rg w b g c P) (hf : P.find pg = some i) : Calls Try.prog 38 #[P0 b, .int .i64 pg] w fun e w' => e = .returned (.int .i64 ((P.S i).pn : Int)) ∧ Kept [] w w' := by
  have him := (Po.find_some hf).1.1
  have hiI : (i : Int) < (P.m : Int) := by omega
  have hm16 := h.ok.m
  have hcm := h.cm
  have hn0 : ¬ ((i : Int) < 0) := by omega
  have hd0 : decide ((i : Int) < 0) = false := decide_eq_false hn0
  have P48 : Hid (∀ W, Kept [] w W → Calls Try.prog 48 #[P0 b, .int .i64 pg] W fun e w' => e = .returned (.int .i64 (i : Int)) ∧ w' = W) := fun W hk => by
    have h9 := find48 W (h.step hk (by simp) (by simp)) pg
    rw [rfnd_some hf] at h9
    exact h9
  have HP := hide h
  have HF := hide hf
  have HK := hide (Kept.refl [] w)
  obtain ⟨post, hpo⟩ := h.row
  obtain ⟨c0, hc0⟩ : ∃ c, c = plsD P.S P.m ++ post := ⟨_, rfl⟩
  obtain ⟨fc, hfc⟩ : ∃ c, c = (P.S i).f.C := ⟨_, rfl⟩
  obtain ⟨bc, hbc⟩ : ∃ x, x = [Value.slice (some ⟨g, 0, none⟩) P.m c, .int .i64 (P.h : Int)] := ⟨_, rfl⟩
  have HLF : Hid (fc.length = 102) := by show _ = _; rw [hfc, Fr.len]
  have HOF : Hid (∀ v ∈ fc, v.oneCell' = true) := by rw [hfc]; exact Fr.one _
  have HL0 : Hid (P.m * 105 ≤ c0.length) := by show _ ≤ _; rw [hc0, List.length_append, plsD_len]; omega
  have HR : Hid (∀ W, Blk W g 84 c0 → W.rangeAt g (i * 105 + 1) fc) := fun W hB => by
    rw [hfc]
    refine hB.rangeIn _ (fun j hj => ?_)
    rw [Fr.len] at hj
    rw [hc0, Nat.add_assoc, plsD_at _ _ _ _ _ him (by omega), (P.S i).D_f j hj]
  have HB0 : Hid (bc[0]? = some (.slice (some ⟨g, 0, none⟩) P.m c)) := by rw [hbc]; rfl
  have M : Hid (Mm [b, g] w w [(b, 73, bc), (g, 84, c0)]) := Mm.two (by rw [hbc]; exact h.bk) (by rw [hc0]; exact hpo) h.ne
  have cs := h.cs
  have cpn : w.cell? ⟨g, i * 105 + 103, none⟩ = some (.int .i64 ((P.S i).pn : Int)) := h.cpn him
  have HC0 := hide hc0
  have HFC := hide hfc
  have HBC := hide hbc
  clear hc0 hfc hbc h hf hpo
  go_enter Try.func38, Try.ntmps38
  go_wp2_with (
    first
    | (go_at_call 48
       refine (unhide P48 _ (unhide HK)).mono ?_
       rintro e W9 ⟨rfl, q9⟩
       replace q9 := q9.symm
       subst q9
       clear P48
       refine Stp.go ?_))
  constructor
  go_wp2_with fail
  go_ret
  exact ⟨rfl, unhide HK⟩
set_option maxHeartbeats 1000000 in
theorem rget_ok (h : Rg w b g c P) (hf : P.find pg = some i) : Calls Try.prog 29 #[P0 b, .int .i64 pg] w fun e w' => e = .returned (.tuple #[aggV (P.S i).f.C, .int .i64 0]) ∧ Rg w' b g c (P.up i ⟨(P.S i).f, (P.S i).pn, true⟩) ∧ Kept [b, g] w w' := by
  have him := (Po.find_some hf).1.1
  have hiI : (i : Int) < (P.m : Int) := by omega
  have hm16 := h.ok.m
  have hcm := h.cm
  have hn0 : ¬ ((i : Int) < 0) := by omega
  have hd0 : decide ((i : Int) < 0) = false := decide_eq_false hn0
  have P48 : Hid (∀ W, Kept [] w W → Calls Try.prog 48 #[P0 b, .int .i64 pg] W fun e w' => e = .returned (.int .i64 (i : Int)) ∧ w' = W) := fun W hk => by
    have h9 := find48 W (h.step hk (by simp) (by simp)) pg
    rw [rfnd_some hf] at h9
    exact h9
  have HP := hide h
  have HF := hide hf
  have HK := hide (Kept.refl [] w)
  obtain ⟨post, hpo⟩ := h.row
  obtain ⟨c0, hc0⟩ : ∃ c, c = plsD P.S P.m ++ post := ⟨_, rfl⟩
  obtain ⟨fc, hfc⟩ : ∃ c, c = (P.S i).f.C := ⟨_, rfl⟩
  obtain ⟨bc, hbc⟩ : ∃ x, x = [Value.slice (some ⟨g, 0, none⟩) P.m c, .int .i64 (P.h : Int)] := ⟨_, rfl⟩
  have HLF : Hid (fc.length = 102) := by show _ = _; rw [hfc, Fr.len]
  have HOF : Hid (∀ v ∈ fc, v.oneCell' = true) := by rw [hfc]; exact Fr.one _
  have HL0 : Hid (P.m * 105 ≤ c0.length) := by show _ ≤ _; rw [hc0, List.length_append, plsD_len]; omega
  have HR : Hid (∀ W, Blk W g 84 c0 → W.rangeAt g (i * 105 + 1) fc) := fun W hB => by
    rw [hfc]
    refine hB.rangeIn _ (fun j hj => ?_)
    rw [Fr.len] at hj
    rw [hc0, Nat.add_assoc, plsD_at _ _ _ _ _ him (by omega), (P.S i).D_f j hj]
  have HB0 : Hid (bc[0]? = some (.slice (some ⟨g, 0, none⟩) P.m c)) := by rw [hbc]; rfl
  have M : Hid (Mm [b, g] w w [(b, 73, bc), (g, 84, c0)]) := Mm.two (by rw [hbc]; exact h.bk) (by rw [hc0]; exact hpo) h.ne
  obtain ⟨c1, hc1⟩ : ∃ c, c = plsD (P.up i ⟨(P.S i).f, (P.S i).pn, true⟩).S P.m ++ post := ⟨_, rfl⟩
  have HS1 : Hid (c0.set (i * 105 + 104) (.bool true) = c1) := by show _ = _; rw [hc0, hc1]; exact plsD_set P.S P.m post i 104 him (by omega) _ _ ((P.S i).setD_us true)
  have HR1 : Hid (∀ W, Blk W g 84 c1 → W.rangeAt g (i * 105 + 1) fc) := fun W hB => by
    rw [hfc]
    refine hB.rangeIn _ (fun j hj => ?_)
    rw [Fr.len] at hj
    rw [hc1, Nat.add_assoc, plsD_at _ _ _ _ _ him (by omega), Po.up_f, Pl.D_f _ j hj]
  have HC1 := hide hc1
  clear hc1
  have HC0 := hide hc0
  have HFC := hide hfc
  have HBC := hide hbc
  clear hc0 hfc hbc h hf hpo
  go_enter Try.func29, Try.ntmps29
  go_wp2_with (
    first
    | (refine wpAlloc39 4 rfl rfl rfl ?_
       intro W1 gg zc e1 B1 z1 K1
       replace M : Hid (Mm [b, g] w W1 [(b, 73, bc), (g, 84, c0), (gg, 39, zc)]) := hide ((unhide M).new e1 B1 K1)
       have HZL := hide z1
       replace HK := hide ((unhide HK).trans K1)
       have cs := fits_cell ((unhide M).at 0 _ rfl) 0 _ (unhide HB0)
       clear e1 B1 z1 K1
       refine Stp.go ?_))
  constructor
  go_wp2_with (
    first
    | (go_at_call 48
       refine (unhide P48 _ (unhide HK)).mono ?_
       rintro e W9 ⟨rfl, q9⟩
       replace q9 := q9.symm
       subst q9
       clear P48
       refine Stp.go ?_))
  constructor
  go_wp2_with (
    first
    | (refine wpSt1 size4 rfl (.tmp 22) (.const (.bool true)) rfl rfl g (i * 105 + 104) 1 (.bool true) ⟨rfl, rfl⟩ rfl rfl (unhide M) rfl (by have := unhide HL0; omega) (unhide HS1) ?_
       intro W7 M7
       replace M : Hid (Mm [b, g] w W7 [(b, 73, bc), (g, 84, c1), (gg, 39, zc)]) := hide M7
       have cs := fits_cell ((unhide M).at 0 _ rfl) 0 _ (unhide HB0)
       clear M7
       refine Stp.go ?_))
  constructor
  go_wp2_with (
    first
    | (refine wpLoadA row39 rfl (.tmp 29) rfl g (i * 105 + 1) rfl fc (unhide HLF) (unhide HR1 _ ((unhide M).at 1 _ rfl)) ?_
       refine Stp.go ?_))
  constructor
  go_wp2_with (
    first
    | (refine wpStN row39 rfl (.tmp 4) (.tmp 30) rfl rfl gg 0 2 fc rfl rfl (unhide HLF) (unhide HOF) (unhide M) rfl (by have := unhide HZL; omega) (fun W h9 => h9.put (by rw [unhide HZL, unhide HLF])) ?_
       intro W8 M8
       replace M : Hid (Mm [b, g] w W8 [(b, 73, bc), (g, 84, c1), (gg, 39, fc)]) := hide M8
       clear M8
       refine Stp.go ?_))
  constructor
  go_wp2_with fail
  have kk := (unhide M).kept
  have hB9 := (unhide M).at 0 _ rfl
  have hG9 := (unhide M).at 1 _ rfl
  have h9 : Rg _ b g c (P.up i ⟨(P.S i).f, (P.S i).pn, true⟩) := (unhide HP).upx hB9 (unhide HBC) hG9 (unhide HC1) ((Lk.up (x := ⟨(P.S i).f, (P.S i).pn, true⟩) (unhide HP).ok rfl (Po.find_some (unhide HF)).1.2).ok (unhide HP).ok)
  have g4 := (unhide M).at 2 _ rfl
  refine bodyPost_ret (res29 _ _ _ _ _ rfl rfl (unhide HLF) g4) rfl ⟨by rw [unhide HFC], h9, kk⟩
set_option maxHeartbeats 1000000 in
theorem rdrop_ok (h : Rg w b g c P) (hf : P.find pg = some i) : Calls Try.prog 30 #[P0 b, .int .i64 pg] w fun e w' => e = .returned (.tuple #[aggV (P.S i).f.C, .int .i64 0]) ∧ Rg w' b g c (P.up i pl0) ∧ Kept [b, g] w w' := by
  have him := (Po.find_some hf).1.1
  have hiI : (i : Int) < (P.m : Int) := by omega
  have hm16 := h.ok.m
  have hcm := h.cm
  have hn0 : ¬ ((i : Int) < 0) := by omega
  have hd0 : decide ((i : Int) < 0) = false := decide_eq_false hn0
  have P48 : Hid (∀ W, Kept [] w W → Calls Try.prog 48 #[P0 b, .int .i64 pg] W fun e w' => e = .returned (.int .i64 (i : Int)) ∧ w' = W) := fun W hk => by
    have h9 := find48 W (h.step hk (by simp) (by simp)) pg
    rw [rfnd_some hf] at h9
    exact h9
  have HP := hide h
  have HF := hide hf
  have HK := hide (Kept.refl [] w)
  obtain ⟨post, hpo⟩ := h.row
  obtain ⟨c0, hc0⟩ : ∃ c, c = plsD P.S P.m ++ post := ⟨_, rfl⟩
  obtain ⟨fc, hfc⟩ : ∃ c, c = (P.S i).f.C := ⟨_, rfl⟩
  obtain ⟨bc, hbc⟩ : ∃ x, x = [Value.slice (some ⟨g, 0, none⟩) P.m c, .int .i64 (P.h : Int)] := ⟨_, rfl⟩
  have HLF : Hid (fc.length = 102) := by show _ = _; rw [hfc, Fr.len]
  have HOF : Hid (∀ v ∈ fc, v.oneCell' = true) := by rw [hfc]; exact Fr.one _
  have HL0 : Hid (P.m * 105 ≤ c0.length) := by show _ ≤ _; rw [hc0, List.length_append, plsD_len]; omega
  have HR : Hid (∀ W, Blk W g 84 c0 → W.rangeAt g (i * 105 + 1) fc) := fun W hB => by
    rw [hfc]
    refine hB.rangeIn _ (fun j hj => ?_)
    rw [Fr.len] at hj
    rw [hc0, Nat.add_assoc, plsD_at _ _ _ _ _ him (by omega), (P.S i).D_f j hj]
  have HB0 : Hid (bc[0]? = some (.slice (some ⟨g, 0, none⟩) P.m c)) := by rw [hbc]; rfl
  have M : Hid (Mm [b, g] w w [(b, 73, bc), (g, 84, c0)]) := Mm.two (by rw [hbc]; exact h.bk) (by rw [hc0]; exact hpo) h.ne
  obtain ⟨pc, hpc⟩ : ∃ c, c = pl0.D := ⟨_, rfl⟩
  have HB84 : Hid (∀ w : World, (Instr.build 84 #[]).run Try.prog w = .ok (aggV pc) w) := fun w => by rw [hpc]; exact build84 w
  have HPL : Hid (pc.length = 105 ∧ ∀ v ∈ pc, v.oneCell' = true) := by rw [hpc]; exact ⟨Pl.lenD _, Pl.oneD _⟩
  obtain ⟨c1, hc1⟩ : ∃ c, c = plsD (P.up i pl0).S P.m ++ post := ⟨_, rfl⟩
  have HSP : Hid (∀ W, Blk W g 84 c0 → Blk (W.setCells g (i * 105) pc) g 84 c1) := fun W hB => by rw [hc0] at hB; rw [hc1, hpc]; exact plsD_put hB him pl0
  have HC1 := hide hc1
  clear hc1 hpc
  have HC0 := hide hc0
  have HFC := hide hfc
  have HBC := hide hbc
  clear hc0 hfc hbc h hf hpo
  go_enter Try.func30, Try.ntmps30
  go_wp2_with (
    first
    | (refine wpAlloc39 4 rfl rfl rfl ?_
       intro W1 gg zc e1 B1 z1 K1
       replace M : Hid (Mm [b, g] w W1 [(b, 73, bc), (g, 84, c0), (gg, 39, zc)]) := hide ((unhide M).new e1 B1 K1)
       have HZL := hide z1
       replace HK := hide ((unhide HK).trans K1)
       have cs := fits_cell ((unhide M).at 0 _ rfl) 0 _ (unhide HB0)
       clear e1 B1 z1 K1
       refine Stp.go ?_))
  constructor
  go_wp2_with (
    first
    | (go_at_call 48
       refine (unhide P48 _ (unhide HK)).mono ?_
       rintro e W9 ⟨rfl, q9⟩
       replace q9 := q9.symm
       subst q9
       clear P48
       refine Stp.go ?_))
  constructor
  go_wp2_with (
    first
    | (refine wpLoadA row39 rfl (.tmp 23) rfl g (i * 105 + 1) rfl fc (unhide HLF) (unhide HR _ ((unhide M).at 1 _ rfl)) ?_
       refine Stp.go ?_))
  constructor
  go_wp2_with (
    first
    | (refine wpNew row39 fr0.C fr0.len zero39 7 rfl rfl rfl (.tmp 24) rfl rfl rfl fc (unhide HLF) (unhide HOF) (by kernel_rfl) (by kernel_rfl) ?_
       intro W2 g2 e2 B2 K2
       replace M : Hid (Mm [b, g] w W2 [(b, 73, bc), (g, 84, c0), (gg, 39, zc), (g2, 39, fc)]) := hide ((unhide M).new e2 B2 K2)
       have cs := fits_cell ((unhide M).at 0 _ rfl) 0 _ (unhide HB0)
       clear e2 B2 K2
       refine Stp.go ?_))
  constructor
  go_wp2_with (
    first
    | (refine wpBuildZ pc (unhide HB84) rfl rfl ?_
       refine Stp.go ?_))
  constructor
  go_wp2_with (
    first
    | (refine wpStN row84 rfl (.tmp 31) (.tmp 30) rfl rfl g (i * 105) 1 pc rfl rfl (unhide HPL).1 (unhide HPL).2 (unhide M) rfl (by have := unhide HL0; omega) (unhide HSP) ?_
       intro W3 M3
       replace M : Hid (Mm [b, g] w W3 [(b, 73, bc), (g, 84, c1), (gg, 39, zc), (g2, 39, fc)]) := hide M3
       clear M3
       refine Stp.go ?_))
  constructor
  go_wp2_with (
    first
    | (refine wpLoadA row39 rfl (.tmp 7) rfl g2 0 rfl fc (unhide HLF) ((unhide M).at 3 _ rfl).range ?_
       refine Stp.go ?_))
  constructor
  go_wp2_with (
    first
    | (refine wpStN row39 rfl (.tmp 4) (.tmp 32) rfl rfl gg 0 2 fc rfl rfl (unhide HLF) (unhide HOF) (unhide M) rfl (by have := unhide HZL; omega) (fun W h9 => h9.put (by rw [unhide HZL, unhide HLF])) ?_
       intro W8 M8
       replace M : Hid (Mm [b, g] w W8 [(b, 73, bc), (g, 84, c1), (gg, 39, fc), (g2, 39, fc)]) := hide M8
       clear M8
       refine Stp.go ?_))
  constructor
  go_wp2_with fail
  have kk := (unhide M).kept
  have hB9 := (unhide M).at 0 _ rfl
  have hG9 := (unhide M).at 1 _ rfl
  have h9 : Rg _ b g c (P.up i pl0) := (unhide HP).upx hB9 (unhide HBC) hG9 (unhide HC1) (Po.up_ok_drop (unhide HP).ok i)
  have g4 := (unhide M).at 2 _ rfl
  refine bodyPost_ret (res30 _ _ _ _ _ rfl rfl (unhide HLF) g4) rfl ⟨by rw [unhide HFC], h9, kk⟩
set_option maxHeartbeats 1000000 in
theorem rpin_ok (h : Rg w b g c P) (hf : P.find pg = some i) (hp : (P.S i).pn ≤ 1000000) : Calls Try.prog 31 #[P0 b, .int .i64 pg, .int .i64 1] w fun e w' => e = .returned (.int .i64 0) ∧ Rg w' b g c (P.up i ⟨(P.S i).f, (P.S i).pn + 1, (P.S i).us⟩) ∧ Kept [b, g] w w' := by
  have him := (Po.find_some hf).1.1
  have hiI : (i : Int) < (P.m : Int) := by omega
  have hm16 := h.ok.m
  have hcm := h.cm
  have hn0 : ¬ ((i : Int) < 0) := by omega
  have hd0 : decide ((i : Int) < 0) = false := decide_eq_false hn0
  have P48 : Hid (∀ W, Kept [] w W → Calls Try.prog 48 #[P0 b, .int .i64 pg] W fun e w' => e = .returned (.int .i64 (i : Int)) ∧ w' = W) := fun W hk => by
    have h9 := find48 W (h.step hk (by simp) (by simp)) pg
    rw [rfnd_some hf] at h9
    exact h9
  have HP := hide h
  have HF := hide hf
  have HK := hide (Kept.refl [] w)
  obtain ⟨post, hpo⟩ := h.row
  obtain ⟨c0, hc0⟩ : ∃ c, c = plsD P.S P.m ++ post := ⟨_, rfl⟩
  obtain ⟨fc, hfc⟩ : ∃ c, c = (P.S i).f.C := ⟨_, rfl⟩
  obtain ⟨bc, hbc⟩ : ∃ x, x = [Value.slice (some ⟨g, 0, none⟩) P.m c, .int .i64 (P.h : Int)] := ⟨_, rfl⟩
  have HLF : Hid (fc.length = 102) := by show _ = _; rw [hfc, Fr.len]
  have HOF : Hid (∀ v ∈ fc, v.oneCell' = true) := by rw [hfc]; exact Fr.one _
  have HL0 : Hid (P.m * 105 ≤ c0.length) := by show _ ≤ _; rw [hc0, List.length_append, plsD_len]; omega
  have HR : Hid (∀ W, Blk W g 84 c0 → W.rangeAt g (i * 105 + 1) fc) := fun W hB => by
    rw [hfc]
    refine hB.rangeIn _ (fun j hj => ?_)
    rw [Fr.len] at hj
    rw [hc0, Nat.add_assoc, plsD_at _ _ _ _ _ him (by omega), (P.S i).D_f j hj]
  have HB0 : Hid (bc[0]? = some (.slice (some ⟨g, 0, none⟩) P.m c)) := by rw [hbc]; rfl
  have M : Hid (Mm [b, g] w w [(b, 73, bc), (g, 84, c0)]) := Mm.two (by rw [hbc]; exact h.bk) (by rw [hc0]; exact hpo) h.ne
  have cs := h.cs
  have cpn : w.cell? ⟨g, i * 105 + 103, none⟩ = some (.int .i64 ((P.S i).pn : Int)) := h.cpn him
  obtain ⟨c1, hc1⟩ : ∃ c, c = plsD (P.up i ⟨(P.S i).f, (P.S i).pn + 1, (P.S i).us⟩).S P.m ++ post := ⟨_, rfl⟩
  have HS1 : Hid (c0.set (i * 105 + 103) (.int .i64 ((((P.S i).pn + 1 : Nat) : Nat) : Int)) = c1) := by show _ = _; rw [hc0, hc1]; exact plsD_set P.S P.m post i 103 him (by omega) _ _ ((P.S i).setD_pn _)
  have HC1 := hide hc1
  clear hc1
  have hq0 : decide (((P.S i).pn : Int) + 1 < 0) = false := decide_eq_false (by omega)
  have HPN : Hid (c0[i * 105 + 103]? = some (.int .i64 ((P.S i).pn : Int))) := by show _ = _; rw [hc0, plsD_at _ _ _ _ _ him (by omega)]; exact (P.S i).D_pn
  have HNV : Hid (((P.S i).pn : Int) + (1) = ((((P.S i).pn + 1 : Nat) : Nat) : Int)) := by show _ = _; omega
  have HP9 : Hid ((P.S i).pn ≤ 1000000) := hp
  have HLC : Hid True := trivial
  have HS3 : Hid ((cond false c1 c0).set (i * 105 + 103) (.int .i64 ((((P.S i).pn + 1 : Nat) : Nat) : Int)) = cond true c1 c0) := unhide HS1
  have HC0 := hide hc0
  have HFC := hide hfc
  have HBC := hide hbc
  clear hc0 hfc hbc h hf hpo
  go_enter Try.func31, Try.ntmps31
  go_wp2_with (
    first
    | (go_at_call 48
       refine (unhide P48 _ (unhide HK)).mono ?_
       rintro e W9 ⟨rfl, q9⟩
       replace q9 := q9.symm
       subst q9
       clear P48
       refine Stp.go ?_))
  constructor
  go_wp2_with fail
  refine wp_region_any mixed (wpAny_gx 18 rfl (by kernel_rfl) [some (P0 b), some (P0 b), some (P0 b), some (.slice (some ⟨g, 0, none⟩) P.m c), some (.int .i64 i), some (P0 b), some (P0 b), some (P0 b), some (.slice (some ⟨g, 0, none⟩) P.m c), some (.int .i64 i), some (.pointer (some ⟨g, i * 105, none⟩)), some (.pointer (some ⟨g, i * 105 + 103, none⟩)), some (.int .i64 (((P.S i).pn : Int))), some (.int .i64 ((1))), some (.int .i64 (((P.S i).pn : Int) + (1))), some (.pointer (some ⟨g, i * 105, none⟩)), some (.pointer (some ⟨g, i * 105 + 103, none⟩)), none] rfl (by kernel_rfl) (fun l vs W => (SD1 [b, g] w (fun d1 => [(b, 73, bc), (g, 84, cond d1 c1 c0)]) 17) (fun i => l.getD i false) vs W) ((unhide M).drew) ?_ ?_)
  · intro ix o' hi ho a' w2 l vs hls hlf hJ hout hin hdep hnot
    match ix, ho with
    | 0, ho =>
      obtain rfl := Option.some.inj ho
      have e0 := hout 0 (by kernel_rfl)
      replace e0 : a'.eval (.tmp 0) = _ := e0.trans rfl
      exact wp_move (.tmp 0) rfl _ e0 ⟨_, rfl, told_of rfl, keepG (St := (SD1 [b, g] w (fun d1 => [(b, 73, bc), (g, 84, cond d1 c1 c0)]) 17)) [17] SD1.loc (by omega) (by decide) hJ⟩
    | 1, ho =>
      obtain rfl := Option.some.inj ho
      have e0 : a'.eval (.tmp 28) = P0 b := by have h9 := hin 0 28 (by kernel_rfl) (by kernel_rfl); exact h9.1.trans (told_is _ h9.2 rfl)
      exact o_nil (.tmp 28) rfl _ e0 ⟨_, rfl, told_of rfl, keepG (St := (SD1 [b, g] w (fun d1 => [(b, 73, bc), (g, 84, cond d1 c1 c0)]) 17)) [17] SD1.loc (by omega) (by decide) hJ⟩
    | 2, ho =>
      obtain rfl := Option.some.inj ho
      have e0 : a'.eval (.tmp 29) = P0 b := by have h9 := hin 1 29 (by kernel_rfl) (by kernel_rfl); exact h9.1.trans (told_is _ h9.2 rfl)
      exact o_fld73_0 (.tmp 29) rfl b (0) (0) rfl e0 ⟨_, rfl, told_of rfl, keepG (St := (SD1 [b, g] w (fun d1 => [(b, 73, bc), (g, 84, cond d1 c1 c0)]) 17)) [17] SD1.loc (by omega) (by decide) hJ⟩
    | 3, ho =>
      obtain rfl := Option.some.inj ho
      have e0 : a'.eval (.tmp 30) = P0 b := by have h9 := hin 2 30 (by kernel_rfl) (by kernel_rfl); exact h9.1.trans (told_is _ h9.2 rfl)
      exact o_load71 (.tmp 30) rfl _ _ e0 (fits_cell (Mm.at hJ 0 _ rfl) 0 _ (unhide HB0)) ⟨_, rfl, told_of rfl, keepG (St := (SD1 [b, g] w (fun d1 => [(b, 73, bc), (g, 84, cond d1 c1 c0)]) 17)) [17] SD1.loc (by omega) (by decide) hJ⟩
    | 4, ho =>
      obtain rfl := Option.some.inj ho
      have e0 := hout 7 (by kernel_rfl)
      replace e0 : a'.eval (.tmp 7) = _ := e0.trans rfl
      exact wp_move (.tmp 7) rfl _ e0 ⟨_, rfl, told_of rfl, keepG (St := (SD1 [b, g] w (fun d1 => [(b, 73, bc), (g, 84, cond d1 c1 c0)]) 17)) [17] SD1.loc (by omega) (by decide) hJ⟩
    | 5, ho =>
      obtain rfl := Option.some.inj ho
      have e0 := hout 0 (by kernel_rfl)
      replace e0 : a'.eval (.tmp 0) = _ := e0.trans rfl
      exact wp_move (.tmp 0) rfl _ e0 ⟨_, rfl, told_of rfl, keepG (St := (SD1 [b, g] w (fun d1 => [(b, 73, bc), (g, 84, cond d1 c1 c0)]) 17)) [17] SD1.loc (by omega) (by decide) hJ⟩
    | 6, ho =>
      obtain rfl := Option.some.inj ho
      have e0 : a'.eval (.tmp 33) = P0 b := by have h9 := hin 5 33 (by kernel_rfl) (by kernel_rfl); exact h9.1.trans (told_is _ h9.2 rfl)
      exact o_nil (.tmp 33) rfl _ e0 ⟨_, rfl, told_of rfl, keepG (St := (SD1 [b, g] w (fun d1 => [(b, 73, bc), (g, 84, cond d1 c1 c0)]) 17)) [17] SD1.loc (by omega) (by decide) hJ⟩
    | 7, ho =>
      obtain rfl := Option.some.inj ho
      have e0 : a'.eval (.tmp 34) = P0 b := by have h9 := hin 6 34 (by kernel_rfl) (by kernel_rfl); exact h9.1.trans (told_is _ h9.2 rfl)
      exact o_fld73_0 (.tmp 34) rfl b (0) (0) rfl e0 ⟨_, rfl, told_of rfl, keepG (St := (SD1 [b, g] w (fun d1 => [(b, 73, bc), (g, 84, cond d1 c1 c0)]) 17)) [17] SD1.loc (by omega) (by decide) hJ⟩
    | 8, ho =>
      obtain rfl := Option.some.inj ho
      have e0 : a'.eval (.tmp 35) = P0 b := by have h9 := hin 7 35 (by kernel_rfl) (by kernel_rfl); exact h9.1.trans (told_is _ h9.2 rfl)
      exact o_load71 (.tmp 35) rfl _ _ e0 (fits_cell (Mm.at hJ 0 _ rfl) 0 _ (unhide HB0)) ⟨_, rfl, told_of rfl, keepG (St := (SD1 [b, g] w (fun d1 => [(b, 73, bc), (g, 84, cond d1 c1 c0)]) 17)) [17] SD1.loc (by omega) (by decide) hJ⟩
    | 9, ho =>
      obtain rfl := Option.some.inj ho
      have e0 := hout 7 (by kernel_rfl)
      replace e0 : a'.eval (.tmp 7) = _ := e0.trans rfl
      exact wp_move (.tmp 7) rfl _ e0 ⟨_, rfl, told_of rfl, keepG (St := (SD1 [b, g] w (fun d1 => [(b, 73, bc), (g, 84, cond d1 c1 c0)]) 17)) [17] SD1.loc (by omega) (by decide) hJ⟩
    | 10, ho =>
      obtain rfl := Option.some.inj ho
      have e0 : a'.eval (.tmp 36) = .slice (some ⟨g, 0, none⟩) P.m c := by have h9 := hin 8 36 (by kernel_rfl) (by kernel_rfl); exact h9.1.trans (told_is _ h9.2 rfl)
      have e1 : a'.eval (.tmp 37) = .int .i64 i := by have h9 := hin 9 37 (by kernel_rfl) (by kernel_rfl); exact h9.1.trans (told_is _ h9.2 rfl)
      exact o_idx71 (.tmp 36) (.tmp 37) rfl g P.m c i (i * 105) (by omega) rfl e0 e1 ⟨_, rfl, told_of rfl, keepG (St := (SD1 [b, g] w (fun d1 => [(b, 73, bc), (g, 84, cond d1 c1 c0)]) 17)) [17] SD1.loc (by omega) (by decide) hJ⟩
    | 11, ho =>
      obtain rfl := Option.some.inj ho
      have e0 : a'.eval (.tmp 38) = .pointer (some ⟨g, i * 105, none⟩) := by have h9 := hin 10 38 (by kernel_rfl) (by kernel_rfl); exact h9.1.trans (told_is _ h9.2 rfl)
      exact o_fld84_2 (.tmp 38) rfl g (i * 105) (i * 105 + 103) rfl e0 ⟨_, rfl, told_of rfl, keepG (St := (SD1 [b, g] w (fun d1 => [(b, 73, bc), (g, 84, cond d1 c1 c0)]) 17)) [17] SD1.loc (by omega) (by decide) hJ⟩
    | 12, ho =>
      obtain rfl := Option.some.inj ho
      have e0 : a'.eval (.tmp 39) = .pointer (some ⟨g, i * 105 + 103, none⟩) := by have h9 := hin 11 39 (by kernel_rfl) (by kernel_rfl); exact h9.1.trans (told_is _ h9.2 rfl)
      exact o_load3 (.tmp 39) rfl _ _ e0 (fits_cell (Mm.at (SD1.no hJ (hnot 17 (by kernel_rfl))) 1 _ rfl) _ _ (unhide HPN)) ⟨_, rfl, told_of rfl, keepG (St := (SD1 [b, g] w (fun d1 => [(b, 73, bc), (g, 84, cond d1 c1 c0)]) 17)) [17] SD1.loc (by omega) (by decide) hJ⟩
    | 13, ho =>
      obtain rfl := Option.some.inj ho
      have e0 := hout 2 (by kernel_rfl)
      replace e0 : a'.eval (.tmp 2) = _ := e0.trans rfl
      exact wp_move (.tmp 2) rfl _ e0 ⟨_, rfl, told_of rfl, keepG (St := (SD1 [b, g] w (fun d1 => [(b, 73, bc), (g, 84, cond d1 c1 c0)]) 17)) [17] SD1.loc (by omega) (by decide) hJ⟩
    | 14, ho =>
      obtain rfl := Option.some.inj ho
      have e0 : a'.eval (.tmp 40) = .int .i64 (((P.S i).pn : Int)) := by have h9 := hin 12 40 (by kernel_rfl) (by kernel_rfl); exact h9.1.trans (told_is _ h9.2 rfl)
      have e1 : a'.eval (.tmp 41) = .int .i64 ((1)) := by have h9 := hin 13 41 (by kernel_rfl) (by kernel_rfl); exact h9.1.trans (told_is _ h9.2 rfl)
      exact c_add3 (.tmp 40) (.tmp 41) rfl _ _ (by have := unhide HP9; omega) e0 e1 ⟨_, rfl, told_of rfl, keepG (St := (SD1 [b, g] w (fun d1 => [(b, 73, bc), (g, 84, cond d1 c1 c0)]) 17)) [17] SD1.loc (by omega) (by decide) hJ⟩
    | 15, ho =>
      obtain rfl := Option.some.inj ho
      have e0 : a'.eval (.tmp 31) = .slice (some ⟨g, 0, none⟩) P.m c := by have h9 := hin 3 31 (by kernel_rfl) (by kernel_rfl); exact h9.1.trans (told_is _ h9.2 rfl)
      have e1 : a'.eval (.tmp 32) = .int .i64 i := by have h9 := hin 4 32 (by kernel_rfl) (by kernel_rfl); exact h9.1.trans (told_is _ h9.2 rfl)
      exact o_idx71 (.tmp 31) (.tmp 32) rfl g P.m c i (i * 105) (by omega) rfl e0 e1 ⟨_, rfl, told_of rfl, keepG (St := (SD1 [b, g] w (fun d1 => [(b, 73, bc), (g, 84, cond d1 c1 c0)]) 17)) [17] SD1.loc (by omega) (by decide) hJ⟩
    | 16, ho =>
      obtain rfl := Option.some.inj ho
      have e0 : a'.eval (.tmp 43) = .pointer (some ⟨g, i * 105, none⟩) := by have h9 := hin 15 43 (by kernel_rfl) (by kernel_rfl); exact h9.1.trans (told_is _ h9.2 rfl)
      exact o_fld84_2 (.tmp 43) rfl g (i * 105) (i * 105 + 103) rfl e0 ⟨_, rfl, told_of rfl, keepG (St := (SD1 [b, g] w (fun d1 => [(b, 73, bc), (g, 84, cond d1 c1 c0)]) 17)) [17] SD1.loc (by omega) (by decide) hJ⟩
    | 17, ho =>
      obtain rfl := Option.some.inj ho
      have e0 : a'.eval (.tmp 44) = .pointer (some ⟨g, i * 105 + 103, none⟩) := by have h9 := hin 16 44 (by kernel_rfl) (by kernel_rfl); exact h9.1.trans (told_is _ h9.2 rfl)
      have e1 : a'.eval (.tmp 42) = .int .i64 (((P.S i).pn : Int) + (1)) := by have h9 := hin 14 42 (by kernel_rfl) (by kernel_rfl); exact h9.1.trans (told_is _ h9.2 rfl)
      exact o_st1 size3 (.tmp 44) (.tmp 42) rfl rfl g (i * 105 + 103) 1 (.int .i64 ((((P.S i).pn + 1 : Nat) : Nat) : Int)) ⟨rfl, rfl⟩ e0 (e1.trans (congrArg (Value.int .i64) (unhide HNV))) (SD1.no hJ hlf) rfl (by have := unhide HLC; simp [cond, this]; have := unhide HL0; omega) (unhide HS3) (fun W hM => ⟨undef, rfl, told_no rfl, nextG (St := (SD1 [b, g] w (fun d1 => [(b, 73, bc), (g, 84, cond d1 c1 c0)]) 17)) (by omega) hM⟩)
  intro l_ vs4 V4 hl hJ htold
  have t0 : vs4 0 = P0 b := told_is _ (htold 0 (by decide)) rfl
  have t1 : vs4 1 = P0 b := told_is _ (htold 1 (by decide)) rfl
  have t2 : vs4 2 = P0 b := told_is _ (htold 2 (by decide)) rfl
  have t3 : vs4 3 = .slice (some ⟨g, 0, none⟩) P.m c := told_is _ (htold 3 (by decide)) rfl
  have t4 : vs4 4 = .int .i64 i := told_is _ (htold 4 (by decide)) rfl
  have t5 : vs4 5 = P0 b := told_is _ (htold 5 (by decide)) rfl
  have t6 : vs4 6 = P0 b := told_is _ (htold 6 (by decide)) rfl
  have t7 : vs4 7 = P0 b := told_is _ (htold 7 (by decide)) rfl
  have t8 : vs4 8 = .slice (some ⟨g, 0, none⟩) P.m c := told_is _ (htold 8 (by decide)) rfl
  have t9 : vs4 9 = .int .i64 i := told_is _ (htold 9 (by decide)) rfl
  have t10 : vs4 10 = .pointer (some ⟨g, i * 105, none⟩) := told_is _ (htold 10 (by decide)) rfl
  have t11 : vs4 11 = .pointer (some ⟨g, i * 105 + 103, none⟩) := told_is _ (htold 11 (by decide)) rfl
  have t12 : vs4 12 = .int .i64 (((P.S i).pn : Int)) := told_is _ (htold 12 (by decide)) rfl
  have t13 : vs4 13 = .int .i64 ((1)) := told_is _ (htold 13 (by decide)) rfl
  have t14 : vs4 14 = .int .i64 (((P.S i).pn : Int) + (1)) := told_is _ (htold 14 (by decide)) rfl
  have t15 : vs4 15 = .pointer (some ⟨g, i * 105, none⟩) := told_is _ (htold 15 (by decide)) rfl
  have t16 : vs4 16 = .pointer (some ⟨g, i * 105 + 103, none⟩) := told_is _ (htold 16 (by decide)) rfl
  rw [show (List.range 18).map vs4 = [vs4 0, vs4 1, vs4 2, vs4 3, vs4 4, vs4 5, vs4 6, vs4 7, vs4 8, vs4 9, vs4 10, vs4 11, vs4 12, vs4 13, vs4 14, vs4 15, vs4 16, vs4 17] from rfl]
  simp only [t0, t1, t2, t3, t4, t5, t6, t7, t8, t9, t10, t11, t12, t13, t14, t15, t16, putAll, Act.put, List.setIfInBounds_toArray, List.set_cons_succ, List.set_cons_zero]
  clear t0 t1 t2 t3 t4 t5 t6 t7 t8 t9 t10 t11 t12 t13 t14 t15 t16 htold
  have hM4 : Mm [b, g] w V4 ([(b, 73, bc), (g, 84, c1)]) := SD1.yes hJ (hl 17 (by decide))
  replace M : Hid (Mm [b, g] w V4 [(b, 73, bc), (g, 84, c1)]) := hide hM4
  clear hM4 hJ hl
  go_wp2_with fail
  have kk := (unhide M).kept
  have hB9 := (unhide M).at 0 _ rfl
  have hG9 := (unhide M).at 1 _ rfl
  have h9 : Rg _ b g c (P.up i ⟨(P.S i).f, (P.S i).pn + 1, (P.S i).us⟩) := (unhide HP).upx hB9 (unhide HBC) hG9 (unhide HC1) ((Lk.up (x := ⟨(P.S i).f, (P.S i).pn + 1, (P.S i).us⟩) (unhide HP).ok rfl (Po.find_some (unhide HF)).1.2).ok (unhide HP).ok)
  go_ret
  exact ⟨rfl, h9, kk⟩
set_option maxHeartbeats 1000000 in
theorem runpin_ok (h : Rg w b g c P) (hf : P.find pg = some i) (hp : (P.S i).pn ≤ 1000000) (h0 : ¬ (P.S i).pn = 0) : Calls Try.prog 31 #[P0 b, .int .i64 pg, .int .i64 (-1)] w fun e w' => e = .returned (.int .i64 0) ∧ Rg w' b g c (P.up i ⟨(P.S i).f, (P.S i).pn - 1, (P.S i).us⟩) ∧ Kept [b, g] w w' := by
  have him := (Po.find_some hf).1.1
  have hiI : (i : Int) < (P.m : Int) := by omega
  have hm16 := h.ok.m
  have hcm := h.cm
  have hn0 : ¬ ((i : Int) < 0) := by omega
  have hd0 : decide ((i : Int) < 0) = false := decide_eq_false hn0
  have P48 : Hid (∀ W, Kept [] w W → Calls Try.prog 48 #[P0 b, .int .i64 pg] W fun e w' => e = .returned (.int .i64 (i : Int)) ∧ w' = W) := fun W hk => by
    have h9 := find48 W (h.step hk (by simp) (by simp)) pg
    rw [rfnd_some hf] at h9
    exact h9
  have HP := hide h
  have HF := hide hf
  have HK := hide (Kept.refl [] w)
  obtain ⟨post, hpo⟩ := h.row
  obtain ⟨c0, hc0⟩ : ∃ c, c = plsD P.S P.m ++ post := ⟨_, rfl⟩
  obtain ⟨fc, hfc⟩ : ∃ c, c = (P.S i).f.C := ⟨_, rfl⟩
  obtain ⟨bc, hbc⟩ : ∃ x, x = [Value.slice (some ⟨g, 0, none⟩) P.m c, .int .i64 (P.h : Int)] := ⟨_, rfl⟩
  have HLF : Hid (fc.length = 102) := by show _ = _; rw [hfc, Fr.len]
  have HOF : Hid (∀ v ∈ fc, v.oneCell' = true) := by rw [hfc]; exact Fr.one _
  have HL0 : Hid (P.m * 105 ≤ c0.length) := by show _ ≤ _; rw [hc0, List.length_append, plsD_len]; omega
  have HR : Hid (∀ W, Blk W g 84 c0 → W.rangeAt g (i * 105 + 1) fc) := fun W hB => by
    rw [hfc]
    refine hB.rangeIn _ (fun j hj => ?_)
    rw [Fr.len] at hj
    rw [hc0, Nat.add_assoc, plsD_at _ _ _ _ _ him (by omega), (P.S i).D_f j hj]
  have HB0 : Hid (bc[0]? = some (.slice (some ⟨g, 0, none⟩) P.m c)) := by rw [hbc]; rfl
  have M : Hid (Mm [b, g] w w [(b, 73, bc), (g, 84, c0)]) := Mm.two (by rw [hbc]; exact h.bk) (by rw [hc0]; exact hpo) h.ne
  have cs := h.cs
  have cpn : w.cell? ⟨g, i * 105 + 103, none⟩ = some (.int .i64 ((P.S i).pn : Int)) := h.cpn him
  obtain ⟨c1, hc1⟩ : ∃ c, c = plsD (P.up i ⟨(P.S i).f, (P.S i).pn - 1, (P.S i).us⟩).S P.m ++ post := ⟨_, rfl⟩
  have HS1 : Hid (c0.set (i * 105 + 103) (.int .i64 ((((P.S i).pn - 1 : Nat) : Nat) : Int)) = c1) := by show _ = _; rw [hc0, hc1]; exact plsD_set P.S P.m post i 103 him (by omega) _ _ ((P.S i).setD_pn _)
  have HC1 := hide hc1
  clear hc1
  have hq0 : decide (((P.S i).pn : Int) + (-1) < 0) = false := decide_eq_false (by omega)
  have HPN : Hid (c0[i * 105 + 103]? = some (.int .i64 ((P.S i).pn : Int))) := by show _ = _; rw [hc0, plsD_at _ _ _ _ _ him (by omega)]; exact (P.S i).D_pn
  have HNV : Hid (((P.S i).pn : Int) + (-1) = ((((P.S i).pn - 1 : Nat) : Nat) : Int)) := by show _ = _; omega
  have HP9 : Hid ((P.S i).pn ≤ 1000000) := hp
  have HLC : Hid True := trivial
  have HS3 : Hid ((cond false c1 c0).set (i * 105 + 103) (.int .i64 ((((P.S i).pn - 1 : Nat) : Nat) : Int)) = cond true c1 c0) := unhide HS1
  have HC0 := hide hc0
  have HFC := hide hfc
  have HBC := hide hbc
  clear hc0 hfc hbc h hf hpo
  go_enter Try.func31, Try.ntmps31
  go_wp2_with (
    first
    | (go_at_call 48
       refine (unhide P48 _ (unhide HK)).mono ?_
       rintro e W9 ⟨rfl, q9⟩
       replace q9 := q9.symm
       subst q9
       clear P48
       refine Stp.go ?_))
  constructor
  go_wp2_with fail
  refine wp_region_any mixed (wpAny_gx 18 rfl (by kernel_rfl) [some (P0 b), some (P0 b), some (P0 b), some (.slice (some ⟨g, 0, none⟩) P.m c), some (.int .i64 i), some (P0 b), some (P0 b), some (P0 b), some (.slice (some ⟨g, 0, none⟩) P.m c), some (.int .i64 i), some (.pointer (some ⟨g, i * 105, none⟩)), some (.pointer (some ⟨g, i * 105 + 103, none⟩)), some (.int .i64 (((P.S i).pn : Int))), some (.int .i64 ((-1))), some (.int .i64 (((P.S i).pn : Int) + (-1))), some (.pointer (some ⟨g, i * 105, none⟩)), some (.pointer (some ⟨g, i * 105 + 103, none⟩)), none] rfl (by kernel_rfl) (fun l vs W => (SD1 [b, g] w (fun d1 => [(b, 73, bc), (g, 84, cond d1 c1 c0)]) 17) (fun i => l.getD i false) vs W) ((unhide M).drew) ?_ ?_)
  · intro ix o' hi ho a' w2 l vs hls hlf hJ hout hin hdep hnot
    match ix, ho with
    | 0, ho =>
      obtain rfl := Option.some.inj ho
      have e0 := hout 0 (by kernel_rfl)
      replace e0 : a'.eval (.tmp 0) = _ := e0.trans rfl
      exact wp_move (.tmp 0) rfl _ e0 ⟨_, rfl, told_of rfl, keepG (St := (SD1 [b, g] w (fun d1 => [(b, 73, bc), (g, 84, cond d1 c1 c0)]) 17)) [17] SD1.loc (by omega) (by decide) hJ⟩
    | 1, ho =>
      obtain rfl := Option.some.inj ho
      have e0 : a'.eval (.tmp 28) = P0 b := by have h9 := hin 0 28 (by kernel_rfl) (by kernel_rfl); exact h9.1.trans (told_is _ h9.2 rfl)
      exact o_nil (.tmp 28) rfl _ e0 ⟨_, rfl, told_of rfl, keepG (St := (SD1 [b, g] w (fun d1 => [(b, 73, bc), (g, 84, cond d1 c1 c0)]) 17)) [17] SD1.loc (by omega) (by decide) hJ⟩
    | 2, ho =>
      obtain rfl := Option.some.inj ho
      have e0 : a'.eval (.tmp 29) = P0 b := by have h9 := hin 1 29 (by kernel_rfl) (by kernel_rfl); exact h9.1.trans (told_is _ h9.2 rfl)
      exact o_fld73_0 (.tmp 29) rfl b (0) (0) rfl e0 ⟨_, rfl, told_of rfl, keepG (St := (SD1 [b, g] w (fun d1 => [(b, 73, bc), (g, 84, cond d1 c1 c0)]) 17)) [17] SD1.loc (by omega) (by decide) hJ⟩
    | 3, ho =>
      obtain rfl := Option.some.inj ho
      have e0 : a'.eval (.tmp 30) = P0 b := by have h9 := hin 2 30 (by kernel_rfl) (by kernel_rfl); exact h9.1.trans (told_is _ h9.2 rfl)
      exact o_load71 (.tmp 30) rfl _ _ e0 (fits_cell (Mm.at hJ 0 _ rfl) 0 _ (unhide HB0)) ⟨_, rfl, told_of rfl, keepG (St := (SD1 [b, g] w (fun d1 => [(b, 73, bc), (g, 84, cond d1 c1 c0)]) 17)) [17] SD1.loc (by omega) (by decide) hJ⟩
    | 4, ho =>
      obtain rfl := Option.some.inj ho
      have e0 := hout 7 (by kernel_rfl)
      replace e0 : a'.eval (.tmp 7) = _ := e0.trans rfl
      exact wp_move (.tmp 7) rfl _ e0 ⟨_, rfl, told_of rfl, keepG (St := (SD1 [b, g] w (fun d1 => [(b, 73, bc), (g, 84, cond d1 c1 c0)]) 17)) [17] SD1.loc (by omega) (by decide) hJ⟩
    | 5, ho =>
      obtain rfl := Option.some.inj ho
      have e0 := hout 0 (by kernel_rfl)
      replace e0 : a'.eval (.tmp 0) = _ := e0.trans rfl
      exact wp_move (.tmp 0) rfl _ e0 ⟨_, rfl, told_of rfl, keepG (St := (SD1 [b, g] w (fun d1 => [(b, 73, bc), (g, 84, cond d1 c1 c0)]) 17)) [17] SD1.loc (by omega) (by decide) hJ⟩
    | 6, ho =>
      obtain rfl := Option.some.inj ho
      have e0 : a'.eval (.tmp 33) = P0 b := by have h9 := hin 5 33 (by kernel_rfl) (by kernel_rfl); exact h9.1.trans (told_is _ h9.2 rfl)
      exact o_nil (.tmp 33) rfl _ e0 ⟨_, rfl, told_of rfl, keepG (St := (SD1 [b, g] w (fun d1 => [(b, 73, bc), (g, 84, cond d1 c1 c0)]) 17)) [17] SD1.loc (by omega) (by decide) hJ⟩
    | 7, ho =>
      obtain rfl := Option.some.inj ho
      have e0 : a'.eval (.tmp 34) = P0 b := by have h9 := hin 6 34 (by kernel_rfl) (by kernel_rfl); exact h9.1.trans (told_is _ h9.2 rfl)
      exact o_fld73_0 (.tmp 34) rfl b (0) (0) rfl e0 ⟨_, rfl, told_of rfl, keepG (St := (SD1 [b, g] w (fun d1 => [(b, 73, bc), (g, 84, cond d1 c1 c0)]) 17)) [17] SD1.loc (by omega) (by decide) hJ⟩
    | 8, ho =>
      obtain rfl := Option.some.inj ho
      have e0 : a'.eval (.tmp 35) = P0 b := by have h9 := hin 7 35 (by kernel_rfl) (by kernel_rfl); exact h9.1.trans (told_is _ h9.2 rfl)
      exact o_load71 (.tmp 35) rfl _ _ e0 (fits_cell (Mm.at hJ 0 _ rfl) 0 _ (unhide HB0)) ⟨_, rfl, told_of rfl, keepG (St := (SD1 [b, g] w (fun d1 => [(b, 73, bc), (g, 84, cond d1 c1 c0)]) 17)) [17] SD1.loc (by omega) (by decide) hJ⟩
    | 9, ho =>
      obtain rfl := Option.some.inj ho
      have e0 := hout 7 (by kernel_rfl)
      replace e0 : a'.eval (.tmp 7) = _ := e0.trans rfl
      exact wp_move (.tmp 7) rfl _ e0 ⟨_, rfl, told_of rfl, keepG (St := (SD1 [b, g] w (fun d1 => [(b, 73, bc), (g, 84, cond d1 c1 c0)]) 17)) [17] SD1.loc (by omega) (by decide) hJ⟩
    | 10, ho =>
      obtain rfl := Option.some.inj ho
      have e0 : a'.eval (.tmp 36) = .slice (some ⟨g, 0, none⟩) P.m c := by have h9 := hin 8 36 (by kernel_rfl) (by kernel_rfl); exact h9.1.trans (told_is _ h9.2 rfl)
      have e1 : a'.eval (.tmp 37) = .int .i64 i := by have h9 := hin 9 37 (by kernel_rfl) (by kernel_rfl); exact h9.1.trans (told_is _ h9.2 rfl)
      exact o_idx71 (.tmp 36) (.tmp 37) rfl g P.m c i (i * 105) (by omega) rfl e0 e1 ⟨_, rfl, told_of rfl, keepG (St := (SD1 [b, g] w (fun d1 => [(b, 73, bc), (g, 84, cond d1 c1 c0)]) 17)) [17] SD1.loc (by omega) (by decide) hJ⟩
    | 11, ho =>
      obtain rfl := Option.some.inj ho
      have e0 : a'.eval (.tmp 38) = .pointer (some ⟨g, i * 105, none⟩) := by have h9 := hin 10 38 (by kernel_rfl) (by kernel_rfl); exact h9.1.trans (told_is _ h9.2 rfl)
      exact o_fld84_2 (.tmp 38) rfl g (i * 105) (i * 105 + 103) rfl e0 ⟨_, rfl, told_of rfl, keepG (St := (SD1 [b, g] w (fun d1 => [(b, 73, bc), (g, 84, cond d1 c1 c0)]) 17)) [17] SD1.loc (by omega) (by decide) hJ⟩
    | 12, ho =>
      obtain rfl := Option.some.inj ho
      have e0 : a'.eval (.tmp 39) = .pointer (some ⟨g, i * 105 + 103, none⟩) := by have h9 := hin 11 39 (by kernel_rfl) (by kernel_rfl); exact h9.1.trans (told_is _ h9.2 rfl)
      exact o_load3 (.tmp 39) rfl _ _ e0 (fits_cell (Mm.at (SD1.no hJ (hnot 17 (by kernel_rfl))) 1 _ rfl) _ _ (unhide HPN)) ⟨_, rfl, told_of rfl, keepG (St := (SD1 [b, g] w (fun d1 => [(b, 73, bc), (g, 84, cond d1 c1 c0)]) 17)) [17] SD1.loc (by omega) (by decide) hJ⟩
    | 13, ho =>
      obtain rfl := Option.some.inj ho
      have e0 := hout 2 (by kernel_rfl)
      replace e0 : a'.eval (.tmp 2) = _ := e0.trans rfl
      exact wp_move (.tmp 2) rfl _ e0 ⟨_, rfl, told_of rfl, keepG (St := (SD1 [b, g] w (fun d1 => [(b, 73, bc), (g, 84, cond d1 c1 c0)]) 17)) [17] SD1.loc (by omega) (by decide) hJ⟩
    | 14, ho =>
      obtain rfl := Option.some.inj ho
      have e0 : a'.eval (.tmp 40) = .int .i64 (((P.S i).pn : Int)) := by have h9 := hin 12 40 (by kernel_rfl) (by kernel_rfl); exact h9.1.trans (told_is _ h9.2 rfl)
      have e1 : a'.eval (.tmp 41) = .int .i64 ((-1)) := by have h9 := hin 13 41 (by kernel_rfl) (by kernel_rfl); exact h9.1.trans (told_is _ h9.2 rfl)
      exact c_add3 (.tmp 40) (.tmp 41) rfl _ _ (by have := unhide HP9; omega) e0 e1 ⟨_, rfl, told_of rfl, keepG (St := (SD1 [b, g] w (fun d1 => [(b, 73, bc), (g, 84, cond d1 c1 c0)]) 17)) [17] SD1.loc (by omega) (by decide) hJ⟩
    | 15, ho =>
      obtain rfl := Option.some.inj ho
      have e0 : a'.eval (.tmp 31) = .slice (some ⟨g, 0, none⟩) P.m c := by have h9 := hin 3 31 (by kernel_rfl) (by kernel_rfl); exact h9.1.trans (told_is _ h9.2 rfl)
      have e1 : a'.eval (.tmp 32) = .int .i64 i := by have h9 := hin 4 32 (by kernel_rfl) (by kernel_rfl); exact h9.1.trans (told_is _ h9.2 rfl)
      exact o_idx71 (.tmp 31) (.tmp 32) rfl g P.m c i (i * 105) (by omega) rfl e0 e1 ⟨_, rfl, told_of rfl, keepG (St := (SD1 [b, g] w (fun d1 => [(b, 73, bc), (g, 84, cond d1 c1 c0)]) 17)) [17] SD1.loc (by omega) (by decide) hJ⟩
    | 16, ho =>
      obtain rfl := Option.some.inj ho
      have e0 : a'.eval (.tmp 43) = .pointer (some ⟨g, i * 105, none⟩) := by have h9 := hin 15 43 (by kernel_rfl) (by kernel_rfl); exact h9.1.trans (told_is _ h9.2 rfl)
      exact o_fld84_2 (.tmp 43) rfl g (i * 105) (i * 105 + 103) rfl e0 ⟨_, rfl, told_of rfl, keepG (St := (SD1 [b, g] w (fun d1 => [(b, 73, bc), (g, 84, cond d1 c1 c0)]) 17)) [17] SD1.loc (by omega) (by decide) hJ⟩
    | 17, ho =>
      obtain rfl := Option.some.inj ho
      have e0 : a'.eval (.tmp 44) = .pointer (some ⟨g, i * 105 + 103, none⟩) := by have h9 := hin 16 44 (by kernel_rfl) (by kernel_rfl); exact h9.1.trans (told_is _ h9.2 rfl)
      have e1 : a'.eval (.tmp 42) = .int .i64 (((P.S i).pn : Int) + (-1)) := by have h9 := hin 14 42 (by kernel_rfl) (by kernel_rfl); exact h9.1.trans (told_is _ h9.2 rfl)
      exact o_st1 size3 (.tmp 44) (.tmp 42) rfl rfl g (i * 105 + 103) 1 (.int .i64 ((((P.S i).pn - 1 : Nat) : Nat) : Int)) ⟨rfl, rfl⟩ e0 (e1.trans (congrArg (Value.int .i64) (unhide HNV))) (SD1.no hJ hlf) rfl (by have := unhide HLC; simp [cond, this]; have := unhide HL0; omega) (unhide HS3) (fun W hM => ⟨undef, rfl, told_no rfl, nextG (St := (SD1 [b, g] w (fun d1 => [(b, 73, bc), (g, 84, cond d1 c1 c0)]) 17)) (by omega) hM⟩)
  intro l_ vs4 V4 hl hJ htold
  have t0 : vs4 0 = P0 b := told_is _ (htold 0 (by decide)) rfl
  have t1 : vs4 1 = P0 b := told_is _ (htold 1 (by decide)) rfl
  have t2 : vs4 2 = P0 b := told_is _ (htold 2 (by decide)) rfl
  have t3 : vs4 3 = .slice (some ⟨g, 0, none⟩) P.m c := told_is _ (htold 3 (by decide)) rfl
  have t4 : vs4 4 = .int .i64 i := told_is _ (htold 4 (by decide)) rfl
  have t5 : vs4 5 = P0 b := told_is _ (htold 5 (by decide)) rfl
  have t6 : vs4 6 = P0 b := told_is _ (htold 6 (by decide)) rfl
  have t7 : vs4 7 = P0 b := told_is _ (htold 7 (by decide)) rfl
  have t8 : vs4 8 = .slice (some ⟨g, 0, none⟩) P.m c := told_is _ (htold 8 (by decide)) rfl
  have t9 : vs4 9 = .int .i64 i := told_is _ (htold 9 (by decide)) rfl
  have t10 : vs4 10 = .pointer (some ⟨g, i * 105, none⟩) := told_is _ (htold 10 (by decide)) rfl
  have t11 : vs4 11 = .pointer (some ⟨g, i * 105 + 103, none⟩) := told_is _ (htold 11 (by decide)) rfl
  have t12 : vs4 12 = .int .i64 (((P.S i).pn : Int)) := told_is _ (htold 12 (by decide)) rfl
  have t13 : vs4 13 = .int .i64 ((-1)) := told_is _ (htold 13 (by decide)) rfl
  have t14 : vs4 14 = .int .i64 (((P.S i).pn : Int) + (-1)) := told_is _ (htold 14 (by decide)) rfl
  have t15 : vs4 15 = .pointer (some ⟨g, i * 105, none⟩) := told_is _ (htold 15 (by decide)) rfl
  have t16 : vs4 16 = .pointer (some ⟨g, i * 105 + 103, none⟩) := told_is _ (htold 16 (by decide)) rfl
  rw [show (List.range 18).map vs4 = [vs4 0, vs4 1, vs4 2, vs4 3, vs4 4, vs4 5, vs4 6, vs4 7, vs4 8, vs4 9, vs4 10, vs4 11, vs4 12, vs4 13, vs4 14, vs4 15, vs4 16, vs4 17] from rfl]
  simp only [t0, t1, t2, t3, t4, t5, t6, t7, t8, t9, t10, t11, t12, t13, t14, t15, t16, putAll, Act.put, List.setIfInBounds_toArray, List.set_cons_succ, List.set_cons_zero]
  clear t0 t1 t2 t3 t4 t5 t6 t7 t8 t9 t10 t11 t12 t13 t14 t15 t16 htold
  have hM4 : Mm [b, g] w V4 ([(b, 73, bc), (g, 84, c1)]) := SD1.yes hJ (hl 17 (by decide))
  replace M : Hid (Mm [b, g] w V4 [(b, 73, bc), (g, 84, c1)]) := hide hM4
  clear hM4 hJ hl
  go_wp2_with fail
  have kk := (unhide M).kept
  have hB9 := (unhide M).at 0 _ rfl
  have hG9 := (unhide M).at 1 _ rfl
  have h9 : Rg _ b g c (P.up i ⟨(P.S i).f, (P.S i).pn - 1, (P.S i).us⟩) := (unhide HP).upx hB9 (unhide HBC) hG9 (unhide HC1) ((Lk.up (x := ⟨(P.S i).f, (P.S i).pn - 1, (P.S i).us⟩) (unhide HP).ok rfl (Po.find_some (unhide HF)).1.2).ok (unhide HP).ok)
  go_ret
  exact ⟨rfl, h9, kk⟩
set_option maxHeartbeats 1000000 in
theorem runpin0 (h : Rg w b g c P) (hf : P.find pg = some i) (h0 : (P.S i).pn = 0) : Calls Try.prog 31 #[P0 b, .int .i64 pg, .int .i64 (-1)] w fun e w' => e = .returned (.int .i64 6) ∧ Kept [] w w' := by
  have him := (Po.find_some hf).1.1
  have hiI : (i : Int) < (P.m : Int) := by omega
  have hm16 := h.ok.m
  have hcm := h.cm
  have hn0 : ¬ ((i : Int) < 0) := by omega
  have hd0 : decide ((i : Int) < 0) = false := decide_eq_false hn0
  have P48 : Hid (∀ W, Kept [] w W → Calls Try.prog 48 #[P0 b, .int .i64 pg] W fun e w' => e = .returned (.int .i64 (i : Int)) ∧ w' = W) := fun W hk => by
    have h9 := find48 W (h.step hk (by simp) (by simp)) pg
    rw [rfnd_some hf] at h9
    exact h9
  have HP := hide h
  have HF := hide hf
  have HK := hide (Kept.refl [] w)
  obtain ⟨post, hpo⟩ := h.row
  obtain ⟨c0, hc0⟩ : ∃ c, c = plsD P.S P.m ++ post := ⟨_, rfl⟩
  obtain ⟨fc, hfc⟩ : ∃ c, c = (P.S i).f.C := ⟨_, rfl⟩
  obtain ⟨bc, hbc⟩ : ∃ x, x = [Value.slice (some ⟨g, 0, none⟩) P.m c, .int .i64 (P.h : Int)] := ⟨_, rfl⟩
  have HLF : Hid (fc.length = 102) := by show _ = _; rw [hfc, Fr.len]
  have HOF : Hid (∀ v ∈ fc, v.oneCell' = true) := by rw [hfc]; exact Fr.one _
  have HL0 : Hid (P.m * 105 ≤ c0.length) := by show _ ≤ _; rw [hc0, List.length_append, plsD_len]; omega
  have HR : Hid (∀ W, Blk W g 84 c0 → W.rangeAt g (i * 105 + 1) fc) := fun W hB => by
    rw [hfc]
    refine hB.rangeIn _ (fun j hj => ?_)
    rw [Fr.len] at hj
    rw [hc0, Nat.add_assoc, plsD_at _ _ _ _ _ him (by omega), (P.S i).D_f j hj]
  have HB0 : Hid (bc[0]? = some (.slice (some ⟨g, 0, none⟩) P.m c)) := by rw [hbc]; rfl
  have M : Hid (Mm [b, g] w w [(b, 73, bc), (g, 84, c0)]) := Mm.two (by rw [hbc]; exact h.bk) (by rw [hc0]; exact hpo) h.ne
  have cs := h.cs
  have cpn : w.cell? ⟨g, i * 105 + 103, none⟩ = some (.int .i64 0) := by have h9 := h.cpn him; rw [h0] at h9; exact h9
  clear h0
  have HC0 := hide hc0
  have HFC := hide hfc
  have HBC := hide hbc
  clear hc0 hfc hbc h hf hpo
  go_enter Try.func31, Try.ntmps31
  go_wp2_with (
    first
    | (go_at_call 48
       refine (unhide P48 _ (unhide HK)).mono ?_
       rintro e W9 ⟨rfl, q9⟩
       replace q9 := q9.symm
       subst q9
       clear P48
       refine Stp.go ?_))
  constructor
  go_wp2_with fail
  go_ret
  exact ⟨rfl, unhide HK⟩

end Go.Proofs.Ytgnafbohikbpfaa
