/-
  The calls of a directory.
-/
import Derived.Test.YtbigongmlpoahaaDf
namespace Go.Proofs.Ytbigongmlpoahaa.D
set_option maxRecDepth 100000
set_option linter.unusedSimpArgs false
open Go.RowKit

theorem handOverLen (s : Lo) : s.handOver.2.length ≤ 8 := by
  unfold Lo.handOver
  simp only
  split
  · exact send_len _ _ _
  · exact drops_len _
theorem handOnLen (s : Lo) : s.handOn.2.length ≤ 8 := send_len _ _ _
theorem isGoneLen (s : Lo) (n : Nat) : (s.isGone n).2.length ≤ 8 := by
  unfold Lo.isGone
  split
  · exact handOverLen _
  · simp
theorem askLen (s : Lo) (L : List Wi) (y : Wi) : (askP s L y).2.2.length ≤ 8 * L.length + 16 := by
  unfold askP
  split
  · simp
  · split
    · simp
    · have := nextP_len (L ++ [y]) s
      simp at this; omega
theorem askILen (s : Lo) (L : List Wi) (m k : Int) : (askI s L m k).2.2.length ≤ 8 * L.length + 16 := by
  unfold askI
  split
  · exact askLen _ _ _
  · simp
theorem wantLen (s : Lo) (L : List Wi) (m k : Int) : (wantP s L m k).2.2.length ≤ 8 * L.length + 16 := by
  unfold wantP
  split
  · exact askILen _ _ _ _
  · split
    · exact askILen _ _ _ _
    · simp
section
variable {ops : Array Oper} {rest : List Oper} {op o : Oper} {a : Act} {w : World} {K : Act → World → Prop} {Q : Exit → Act → World → Prop}
theorem wpBox1 {T : Nat} (hgd : op.guard = none) (x : Operand) (ho : op.op = .box T x) (n : Int) (hx : a.eval x = .int .i64 n)
    (h : ∀ W b, b = w.heap.size → Blk W b T [.int .i64 n] → Kept [] w W → wpList Try.prog ops Q rest (a.put op.dst (P0 b)) W) : wpList Try.prog ops Q (op :: rest) a w :=
  wpList_plain hgd fun _ hK => by
    unfold Oper.wp execOp
    simp only [ho, hx]
    exact hK _ _ (h _ _ rfl (Blk.new w T _) ((Kept.refl _ _).alloc _))
end
variable {A F : Nat} {w W W' : World} {b mb : Nat} {L : List Lk} {v ln : Value} {n : Int} {x : Lk} {r : Lo → List Wi → Lo × List Wi × List Od} {e : Ending}
theorem AskR.two (h : AskR A w b mb L n r e W) : ∃ a b, e = .returned (.tuple #[a, b]) := by
  rcases h with ⟨_, h2, _⟩ | ⟨_, _, h3, _⟩ | ⟨_, _, _, _, h2, _⟩
  · exact ⟨_, _, h2⟩
  · exact ⟨_, _, h3⟩
  · exact ⟨_, _, h2⟩
theorem AskR.since (h : AskR A W b mb L n r e W') (hk : Kept [] w W) : AskR A w b mb L n r e W' := by
  rcases h with ⟨h1, h2, h3⟩ | ⟨h1, h2, h3, h4⟩ | ⟨x, ln, v, h1, h2, h3, h4, h5, h6⟩
  · exact .inl ⟨h1, h2, hk.trans h3⟩
  · exact .inr (.inl ⟨h1, h2, h3, hk.trans h4⟩)
  · exact .inr (.inr ⟨x, ln, v, h1, h2, h3.elder hk.size, h4, (hk.mono (by simp)).trans h5, ⟨fun k hk2 => (h6.own k hk2).imp id (Nat.le_trans hk.size), fun k hk2 => (h6.spare k hk2).imp id (Nat.le_trans hk.size)⟩⟩)
def askI3 (s : Lo) (L : List Wi) (m : Int) : Lo × List Wi × List Od := askI s L m 3
theorem askI3_gd {A : Nat} {s : Lo} {L : List Wi} {m : Int} (h : Gd A s L) : Gd (A + 1) (askI3 s L m).1 (askI3 s L m).2.1 := askI_gd h (.inr (.inr rfl))
theorem askI3Len (s : Lo) (L : List Wi) (m : Int) : (askI3 s L m).2.2.length ≤ 8 * L.length + 16 := askILen _ _ _ _
theorem goneLen (s : Lo) (L : List Wi) (m c : Int) : (goneP s L m c).2.2.length ≤ 8 * L.length + 16 := by
  unfold goneP
  split
  · have := isGoneLen (s.give m.toNat) m.toNat
    simp only; omega
  · simp
theorem gotLen (s : Lo) (L : List Wi) (m c : Int) : (gotP s L m c).2.2.length ≤ 8 * L.length + 16 := by
  unfold gotP
  split
  · have := nextP_len L s.now.over
    omega
  · simp
theorem relLen (s : Lo) (L : List Wi) (m c : Int) : (relP s L m c).2.2.length ≤ 8 * L.length + 16 := by
  unfold relP
  split
  · unfold relN
    split
    · have := isGoneLen (s.give m.toNat) m.toNat
      simp only; omega
    · split
      · unfold Lo.anew
        split
        · have := handOnLen (s.give m.toNat).opUp
          simp only; omega
        · have := handOverLen (s.give m.toNat).opUp
          simp only; omega
      · split
        · have := nextP_len L (s.give m.toNat).needless.1
          simp only [more, List.length_append]
          simp [Lo.needless] at this ⊢
          omega
        · simp
  · simp
theorem wroteLen (s : Lo) (L : List Wi) (m c p : Int) : (wroteP s L m c p).2.2.length ≤ 8 * L.length + 16 := by
  unfold wroteP
  split
  · have hd := discards_len s p
    unfold wroteN
    split
    · split
      · split
        · have := nextP_len L s.noPa.over
          simp only [more, List.length_append]; omega
        · simp only; omega
      · split
        · have := nextP_len L s.noPa.noOw.over
          simp only [more, List.length_append]; omega
        · simp only; omega
    · simp only; omega
  · simp
theorem ent42 : Ent 42 := fun vs w => by kernel_rfl
theorem cl42 (h : Lc A w x) (hA : A ≤ 900) (m md : Int) (c0 c1 : Nat) (h0 : Blk w c0 3 [.int .i64 m]) (h1 : Blk w c1 29 [.int .i64 md]) : Calls Try.prog 42 (#[P0 x.p] ++ #[P0 c0, P0 c1]) w (LC x.p x.ln w (wantP x.s x.q m md)) := by
  have H := hide (h.sd hA)
  have k0 := fits_cell h0 0 _ rfl
  have k1 := fits_cell h1 0 _ rfl
  clear h h0 h1
  show Calls Try.prog 42 #[P0 x.p, P0 c0, P0 c1] w _
  go_enter Try.func42, Try.ntmps42
  go_wp2_with (
    first
    | (go_at_call 43
       refine (want20 x.s x.ln x.p x.q m md w (unhide H)).mono ?_
       rintro e W1 ⟨ov, ln, rfl, h1⟩
       have H1 := hide h1
       clear h1
       refine Stp.go ?_))
  constructor
  go_wp2_with fail
  go_ret
  exact ⟨ov, ln, rfl, unhide H1⟩
set_option maxHeartbeats 2000000 in
theorem want15 (h : Dg A w b mb L) (hA : A ≤ 900) (n m md : Int) : Calls Try.prog 15 #[P0 b, .int .i64 n, .int .i64 m, .int .i64 md] w (AskR A w b mb L n fun s q => wantP s q m md) := by
  have H := hide h
  have HK := hide (Kept.refl [] w)
  clear h
  go_enter Try.func15, Try.ntmps15
  go_wp2_with (
    first
    | (refine wpBox1 rfl (.tmp 2) rfl m rfl ?_
       intro W0 c0 e0 B0 K0
       have HB0 := hide B0
       replace HK := hide ((unhide HK).trans K0)
       clear e0 B0 K0
       refine Stp.go ?_))
  constructor
  go_wp2_with (
    first
    | (refine wpBox1 rfl (.tmp 3) rfl md rfl ?_
       intro W1 c1 e1 B1 K1
       have HB1 := hide B1
       replace HB0 := hide ((unhide HB0).kept K1 (by simp))
       replace HK := hide ((unhide HK).trans K1)
       clear e1 B1 K1
       refine Stp.go ?_))
  constructor
  have HD : Hid (Dg A W1 b mb L) := (unhide H).step0 (unhide HK)
  go_wp2_with (
    first
    | (go_at_call 41
       refine (ask41 (F := 42) (cs := #[P0 c0, P0 c1]) (r := fun s q => wantP s q m md) (unhide HD) ent42 (fun y hy => cl42 ((unhide HD).lk y hy) hA m md c0 c1 (unhide HB0) (unhide HB1)) (fun y hy => want_gd ((unhide HD).lk y hy).gd) (fun y hy => by have h8 := wantLen y.s y.q m md; have h9 := ((unhide HD).lk y hy).gd.len; omega)).mono ?_
       rintro e W9 h9
       obtain ⟨a9, b9, rfl⟩ := h9.two
       have HR := hide (h9.since (unhide HK))
       clear h9
       refine Stp.go ?_))
  constructor
  go_wp2_with fail
  go_ret2
  exact unhide HR
theorem ent44 : Ent 44 := fun vs w => by kernel_rfl
theorem cl44 (h : Lc A w x) (hA : A ≤ 900) (m : Int) (c0 : Nat) (h0 : Blk w c0 3 [.int .i64 m]) : Calls Try.prog 44 (#[P0 x.p] ++ #[P0 c0]) w (LC x.p x.ln w (askI3 x.s x.q m)) := by
  have H := hide (h.sd hA)
  have k0 := fits_cell h0 0 _ rfl
  clear h h0
  show Calls Try.prog 44 #[P0 x.p, P0 c0] w _
  go_enter Try.func44, Try.ntmps44
  go_wp2_with (
    first
    | (go_at_call 45
       refine (clean21 x.s x.ln x.p x.q m w (unhide H)).mono ?_
       rintro e W1 ⟨ov, ln, rfl, h1⟩
       have H1 := hide h1
       clear h1
       refine Stp.go ?_))
  constructor
  go_wp2_with fail
  go_ret
  exact ⟨ov, ln, rfl, unhide H1⟩
set_option maxHeartbeats 2000000 in
theorem clean16 (h : Dg A w b mb L) (hA : A ≤ 900) (n m : Int) : Calls Try.prog 16 #[P0 b, .int .i64 n, .int .i64 m] w (AskR A w b mb L n fun s q => askI3 s q m) := by
  have H := hide h
  have HK := hide (Kept.refl [] w)
  clear h
  go_enter Try.func16, Try.ntmps16
  go_wp2_with (
    first
    | (refine wpBox1 rfl (.tmp 2) rfl m rfl ?_
       intro W0 c0 e0 B0 K0
       have HB0 := hide B0
       replace HK := hide ((unhide HK).trans K0)
       clear e0 B0 K0
       refine Stp.go ?_))
  constructor
  have HD : Hid (Dg A W0 b mb L) := (unhide H).step0 (unhide HK)
  go_wp2_with (
    first
    | (go_at_call 41
       refine (ask41 (F := 44) (cs := #[P0 c0]) (r := fun s q => askI3 s q m) (unhide HD) ent44 (fun y hy => cl44 ((unhide HD).lk y hy) hA m c0 (unhide HB0)) (fun y hy => askI3_gd ((unhide HD).lk y hy).gd) (fun y hy => by have h8 := askI3Len y.s y.q m; have h9 := ((unhide HD).lk y hy).gd.len; omega)).mono ?_
       rintro e W9 h9
       obtain ⟨a9, b9, rfl⟩ := h9.two
       have HR := hide (h9.since (unhide HK))
       clear h9
       refine Stp.go ?_))
  constructor
  go_wp2_with fail
  go_ret2
  exact unhide HR
theorem ent46 : Ent 46 := fun vs w => by kernel_rfl
theorem cl46 (h : Lc A w x) (hA : A ≤ 900) (m c : Int) (c0 c1 : Nat) (h0 : Blk w c0 3 [.int .i64 m]) (h1 : Blk w c1 2 [.int .i64 c]) : Calls Try.prog 46 (#[P0 x.p] ++ #[P0 c0, P0 c1]) w (LC x.p x.ln w (goneP x.s x.q m c)) := by
  have H := hide (h.sd hA)
  have k0 := fits_cell h0 0 _ rfl
  have k1 := fits_cell h1 0 _ rfl
  clear h h0 h1
  show Calls Try.prog 46 #[P0 x.p, P0 c0, P0 c1] w _
  go_enter Try.func46, Try.ntmps46
  go_wp2_with (
    first
    | (go_at_call 47
       refine (gone30 x.s x.ln x.p x.q m c w (unhide H)).mono ?_
       rintro e W1 ⟨ov, ln, rfl, h1⟩
       have H1 := hide h1
       clear h1
       refine Stp.go ?_))
  constructor
  go_wp2_with fail
  go_ret
  exact ⟨ov, ln, rfl, unhide H1⟩
set_option maxHeartbeats 2000000 in
theorem gone17 (h : Dg A w b mb L) (hA : A ≤ 900) (n m c : Int) : Calls Try.prog 17 #[P0 b, .int .i64 n, .int .i64 m, .int .i64 c] w (AskR A w b mb L n fun s q => goneP s q m c) := by
  have H := hide h
  have HK := hide (Kept.refl [] w)
  clear h
  go_enter Try.func17, Try.ntmps17
  go_wp2_with (
    first
    | (refine wpBox1 rfl (.tmp 2) rfl m rfl ?_
       intro W0 c0 e0 B0 K0
       have HB0 := hide B0
       replace HK := hide ((unhide HK).trans K0)
       clear e0 B0 K0
       refine Stp.go ?_))
  constructor
  go_wp2_with (
    first
    | (refine wpBox1 rfl (.tmp 3) rfl c rfl ?_
       intro W1 c1 e1 B1 K1
       have HB1 := hide B1
       replace HB0 := hide ((unhide HB0).kept K1 (by simp))
       replace HK := hide ((unhide HK).trans K1)
       clear e1 B1 K1
       refine Stp.go ?_))
  constructor
  have HD : Hid (Dg A W1 b mb L) := (unhide H).step0 (unhide HK)
  go_wp2_with (
    first
    | (go_at_call 41
       refine (ask41 (F := 46) (cs := #[P0 c0, P0 c1]) (r := fun s q => goneP s q m c) (unhide HD) ent46 (fun y hy => cl46 ((unhide HD).lk y hy) hA m c c0 c1 (unhide HB0) (unhide HB1)) (fun y hy => gone_gd ((unhide HD).lk y hy).gd) (fun y hy => by have h8 := goneLen y.s y.q m c; have h9 := ((unhide HD).lk y hy).gd.len; omega)).mono ?_
       rintro e W9 h9
       obtain ⟨a9, b9, rfl⟩ := h9.two
       have HR := hide (h9.since (unhide HK))
       clear h9
       refine Stp.go ?_))
  constructor
  go_wp2_with fail
  go_ret2
  exact unhide HR
theorem ent48 : Ent 48 := fun vs w => by kernel_rfl
theorem cl48 (h : Lc A w x) (hA : A ≤ 900) (m c : Int) (c0 c1 : Nat) (h0 : Blk w c0 3 [.int .i64 m]) (h1 : Blk w c1 2 [.int .i64 c]) : Calls Try.prog 48 (#[P0 x.p] ++ #[P0 c0, P0 c1]) w (LC x.p x.ln w (gotP x.s x.q m c)) := by
  have H := hide (h.sd hA)
  have k0 := fits_cell h0 0 _ rfl
  have k1 := fits_cell h1 0 _ rfl
  clear h h0 h1
  show Calls Try.prog 48 #[P0 x.p, P0 c0, P0 c1] w _
  go_enter Try.func48, Try.ntmps48
  go_wp2_with (
    first
    | (go_at_call 49
       refine (got29 x.s x.ln x.p x.q m c w (unhide H)).mono ?_
       rintro e W1 ⟨ov, ln, rfl, h1⟩
       have H1 := hide h1
       clear h1
       refine Stp.go ?_))
  constructor
  go_wp2_with fail
  go_ret
  exact ⟨ov, ln, rfl, unhide H1⟩
set_option maxHeartbeats 2000000 in
theorem got18 (h : Dg A w b mb L) (hA : A ≤ 900) (n m c : Int) : Calls Try.prog 18 #[P0 b, .int .i64 n, .int .i64 m, .int .i64 c] w (AskR A w b mb L n fun s q => gotP s q m c) := by
  have H := hide h
  have HK := hide (Kept.refl [] w)
  clear h
  go_enter Try.func18, Try.ntmps18
  go_wp2_with (
    first
    | (refine wpBox1 rfl (.tmp 2) rfl m rfl ?_
       intro W0 c0 e0 B0 K0
       have HB0 := hide B0
       replace HK := hide ((unhide HK).trans K0)
       clear e0 B0 K0
       refine Stp.go ?_))
  constructor
  go_wp2_with (
    first
    | (refine wpBox1 rfl (.tmp 3) rfl c rfl ?_
       intro W1 c1 e1 B1 K1
       have HB1 := hide B1
       replace HB0 := hide ((unhide HB0).kept K1 (by simp))
       replace HK := hide ((unhide HK).trans K1)
       clear e1 B1 K1
       refine Stp.go ?_))
  constructor
  have HD : Hid (Dg A W1 b mb L) := (unhide H).step0 (unhide HK)
  go_wp2_with (
    first
    | (go_at_call 41
       refine (ask41 (F := 48) (cs := #[P0 c0, P0 c1]) (r := fun s q => gotP s q m c) (unhide HD) ent48 (fun y hy => cl48 ((unhide HD).lk y hy) hA m c c0 c1 (unhide HB0) (unhide HB1)) (fun y hy => got_gd ((unhide HD).lk y hy).gd) (fun y hy => by have h8 := gotLen y.s y.q m c; have h9 := ((unhide HD).lk y hy).gd.len; omega)).mono ?_
       rintro e W9 h9
       obtain ⟨a9, b9, rfl⟩ := h9.two
       have HR := hide (h9.since (unhide HK))
       clear h9
       refine Stp.go ?_))
  constructor
  go_wp2_with fail
  go_ret2
  exact unhide HR
theorem ent50 : Ent 50 := fun vs w => by kernel_rfl
theorem cl50 (h : Lc A w x) (hA : A ≤ 900) (m c : Int) (c0 c1 : Nat) (h0 : Blk w c0 3 [.int .i64 m]) (h1 : Blk w c1 2 [.int .i64 c]) : Calls Try.prog 50 (#[P0 x.p] ++ #[P0 c0, P0 c1]) w (LC x.p x.ln w (relP x.s x.q m c)) := by
  have H := hide (h.sd hA)
  have k0 := fits_cell h0 0 _ rfl
  have k1 := fits_cell h1 0 _ rfl
  clear h h0 h1
  show Calls Try.prog 50 #[P0 x.p, P0 c0, P0 c1] w _
  go_enter Try.func50, Try.ntmps50
  go_wp2_with (
    first
    | (go_at_call 51
       refine (rel22 x.s x.ln x.p x.q m c w (unhide H)).mono ?_
       rintro e W1 ⟨ov, ln, rfl, h1⟩
       have H1 := hide h1
       clear h1
       refine Stp.go ?_))
  constructor
  go_wp2_with fail
  go_ret
  exact ⟨ov, ln, rfl, unhide H1⟩
set_option maxHeartbeats 2000000 in
theorem rel19 (h : Dg A w b mb L) (hA : A ≤ 900) (n m c : Int) : Calls Try.prog 19 #[P0 b, .int .i64 n, .int .i64 m, .int .i64 c] w (AskR A w b mb L n fun s q => relP s q m c) := by
  have H := hide h
  have HK := hide (Kept.refl [] w)
  clear h
  go_enter Try.func19, Try.ntmps19
  go_wp2_with (
    first
    | (refine wpBox1 rfl (.tmp 2) rfl m rfl ?_
       intro W0 c0 e0 B0 K0
       have HB0 := hide B0
       replace HK := hide ((unhide HK).trans K0)
       clear e0 B0 K0
       refine Stp.go ?_))
  constructor
  go_wp2_with (
    first
    | (refine wpBox1 rfl (.tmp 3) rfl c rfl ?_
       intro W1 c1 e1 B1 K1
       have HB1 := hide B1
       replace HB0 := hide ((unhide HB0).kept K1 (by simp))
       replace HK := hide ((unhide HK).trans K1)
       clear e1 B1 K1
       refine Stp.go ?_))
  constructor
  have HD : Hid (Dg A W1 b mb L) := (unhide H).step0 (unhide HK)
  go_wp2_with (
    first
    | (go_at_call 41
       refine (ask41 (F := 50) (cs := #[P0 c0, P0 c1]) (r := fun s q => relP s q m c) (unhide HD) ent50 (fun y hy => cl50 ((unhide HD).lk y hy) hA m c c0 c1 (unhide HB0) (unhide HB1)) (fun y hy => rel_gd ((unhide HD).lk y hy).gd) (fun y hy => by have h8 := relLen y.s y.q m c; have h9 := ((unhide HD).lk y hy).gd.len; omega)).mono ?_
       rintro e W9 h9
       obtain ⟨a9, b9, rfl⟩ := h9.two
       have HR := hide (h9.since (unhide HK))
       clear h9
       refine Stp.go ?_))
  constructor
  go_wp2_with fail
  go_ret2
  exact unhide HR
theorem ent52 : Ent 52 := fun vs w => by kernel_rfl
theorem cl52 (h : Lc A w x) (hA : A ≤ 900) (m c p : Int) (c0 c1 c2 : Nat) (h0 : Blk w c0 3 [.int .i64 m]) (h1 : Blk w c1 2 [.int .i64 c]) (h2 : Blk w c2 2 [.int .i64 p]) : Calls Try.prog 52 (#[P0 x.p] ++ #[P0 c0, P0 c1, P0 c2]) w (LC x.p x.ln w (wroteP x.s x.q m c p)) := by
  have H := hide (h.sd hA)
  have k0 := fits_cell h0 0 _ rfl
  have k1 := fits_cell h1 0 _ rfl
  have k2 := fits_cell h2 0 _ rfl
  clear h h0 h1 h2
  show Calls Try.prog 52 #[P0 x.p, P0 c0, P0 c1, P0 c2] w _
  go_enter Try.func52, Try.ntmps52
  go_wp2_with (
    first
    | (go_at_call 53
       refine (wrote31 x.s x.ln x.p x.q m c p w (unhide H)).mono ?_
       rintro e W1 ⟨ov, ln, rfl, h1⟩
       have H1 := hide h1
       clear h1
       refine Stp.go ?_))
  constructor
  go_wp2_with fail
  go_ret
  exact ⟨ov, ln, rfl, unhide H1⟩
set_option maxHeartbeats 2000000 in
theorem wrote20 (h : Dg A w b mb L) (hA : A ≤ 900) (n m c p : Int) : Calls Try.prog 20 #[P0 b, .int .i64 n, .int .i64 m, .int .i64 c, .int .i64 p] w (AskR A w b mb L n fun s q => wroteP s q m c p) := by
  have H := hide h
  have HK := hide (Kept.refl [] w)
  clear h
  go_enter Try.func20, Try.ntmps20
  go_wp2_with (
    first
    | (refine wpBox1 rfl (.tmp 2) rfl m rfl ?_
       intro W0 c0 e0 B0 K0
       have HB0 := hide B0
       replace HK := hide ((unhide HK).trans K0)
       clear e0 B0 K0
       refine Stp.go ?_))
  constructor
  go_wp2_with (
    first
    | (refine wpBox1 rfl (.tmp 3) rfl c rfl ?_
       intro W1 c1 e1 B1 K1
       have HB1 := hide B1
       replace HB0 := hide ((unhide HB0).kept K1 (by simp))
       replace HK := hide ((unhide HK).trans K1)
       clear e1 B1 K1
       refine Stp.go ?_))
  constructor
  go_wp2_with (
    first
    | (refine wpBox1 rfl (.tmp 4) rfl p rfl ?_
       intro W2 c2 e2 B2 K2
       have HB2 := hide B2
       replace HB0 := hide ((unhide HB0).kept K2 (by simp))
       replace HB1 := hide ((unhide HB1).kept K2 (by simp))
       replace HK := hide ((unhide HK).trans K2)
       clear e2 B2 K2
       refine Stp.go ?_))
  constructor
  have HD : Hid (Dg A W2 b mb L) := (unhide H).step0 (unhide HK)
  go_wp2_with (
    first
    | (go_at_call 41
       refine (ask41 (F := 52) (cs := #[P0 c0, P0 c1, P0 c2]) (r := fun s q => wroteP s q m c p) (unhide HD) ent52 (fun y hy => cl52 ((unhide HD).lk y hy) hA m c p c0 c1 c2 (unhide HB0) (unhide HB1) (unhide HB2)) (fun y hy => wrote_gd ((unhide HD).lk y hy).gd) (fun y hy => by have h8 := wroteLen y.s y.q m c p; have h9 := ((unhide HD).lk y hy).gd.len; omega)).mono ?_
       rintro e W9 h9
       obtain ⟨a9, b9, rfl⟩ := h9.two
       have HR := hide (h9.since (unhide HK))
       clear h9
       refine Stp.go ?_))
  constructor
  go_wp2_with fail
  go_ret2
  exact unhide HR

end Go.Proofs.Ytbigongmlpoahaa.D
