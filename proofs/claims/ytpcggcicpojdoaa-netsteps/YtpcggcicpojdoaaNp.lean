/-
  Drop, Clear, At; letters that are the same.
-/
import Derived.Test.YtpcggcicpojdoaaNo
namespace Go.Proofs.Ytpcggcicpojdoaa
open Go.RowKit

/-- A slice that has these bytes. -/
def RowAt (w : World) (v : Value) (l : List Int) : Prop := ∃ ao c, v = .slice ao l.length c ∧ (l ≠ [] → ∃ h off, ao = some ⟨h, off, none⟩ ∧ w.rangeAt h off (u8s l))
theorem RowAt.kept {w w' : World} {v : Value} {l : List Int} (h : RowAt w v l) (hk : Kept [] w w') : RowAt w' v l := by
  obtain ⟨ao, c, e, hl⟩ := h
  refine ⟨ao, c, e, fun hne => ?_⟩
  obtain ⟨b, off, ea, hr⟩ := hl hne
  exact ⟨b, off, ea, fun j u hj => hk.cell (hr j u hj) (by simp)⟩
theorem conv34 {w : World} {v : Value} {l : List Int} (h : RowAt w v l) : (convert 34 9 v).run Try.prog w = .ok (.string (strOfNums l)) w := by
  obtain ⟨ao, c, rfl, hl⟩ := h
  by_cases h0 : l = []
  · subst h0
    cases ao with
    | none => exact run_convert_bytes_nil (P := Try.prog) w 34 5 Try.underlying34 Try.underlying5 0 c 9 Try.underlying9
    | some a =>
      have hl := run_loadCells_list (P := Try.prog) w a [] (fun j v hj => by simp at hj)
      have := run_bytesToString (P := Try.prog) w a 0 c [] (by simpa using hl)
      rw [show ([] : List Int).length = 0 from rfl, run_convert_bytes_string w 34 9 5 _ 0 c Try.underlying34 Try.underlying5 Try.underlying9, this]
      rfl
  · obtain ⟨b, off, rfl, hr⟩ := hl h0
    refine run_convert_bytes_arg (P := Try.prog) w 34 5 Try.underlying34 Try.underlying5 b off l.length c l rfl ?_ 9 Try.underlying9
    intro i hi
    exact hr i (.int .u8 (l.getD i 0)) (by simp [u8s, List.getD, hi])
theorem vals_rowAt {w : World} {ao : Option Addr} {m c : Nat} {bs : List Int} (h : Vals w ao m c (u8s bs)) : RowAt w (.slice ao m c) bs := by
  have hl := h.len
  rw [u8s_len] at hl
  exact ⟨ao, c, by rw [hl], fun hne => h.lies (fun e => hne (by have := congrArg List.length e; rw [u8s_len] at this; exact List.length_eq_zero_iff.1 this))⟩
theorem Bod.row {W : World} {v : Value} {bs : List Int} (h : Bod W v bs) : RowAt W v bs := by
  obtain ⟨ao, c, rfl, hV, _⟩ := h.sl
  exact vals_rowAt hV
theorem drop_of (b : Nat) (k : Int) (w : World) (R : Int → World → Prop) (hd : Calls Try.prog 18 #[P0 b, .int .i64 k] w fun e w' => ∃ (l : Ltr) (u : Value) (x : Int), u.oneCell' = true ∧ e = .returned (.tuple #[aggV (l.D u), .int .i64 x]) ∧ R x w') (hR : ∀ x A B, R x A → Kept [] A B → R x B) :
    Calls Try.prog 20 #[P0 b, .int .i64 k] w fun e w' => ∃ x, e = .returned (.int .i64 x) ∧ R x w' := by
  have PD := hide hd
  clear hd
  go_enter Try.func20, Try.ntmps20
  go_wp2_with (
    first
    | (go_at_call 18
       refine (unhide PD).mono ?_
       rintro e W1 ⟨l, u, x, hu, rfl, hr⟩
       have HR := hide hr
       have HU := hide hu
       clear hr hu
       refine Stp.go ?_))
  constructor
  go_wp2_with (
    first
    | (refine wpNew row47 zL rfl alloc47 5 (by rfl) (by rfl) (by rfl) (.tmp 11) (by rfl) (by rfl) (by rfl) (l.D u) rfl (D_one (unhide HU)) (by kernel_rfl) (by kernel_rfl) ?_
       intro W2 p2 e2 B2 K2
       replace HR := hide (hR _ _ _ (unhide HR) K2)
       clear e2 B2 K2))
  go_ret
  exact ⟨x, rfl, unhide HR⟩
theorem wpClrM {ops : Array Oper} {rest : List Oper} {op : Oper} {a : Act} {w : World} {Q : Exit → Act → World → Prop} (hgd : op.guard = none) (x : Operand) (ho : op.op = .call { callee := .builtin .clear, args := #[x], argTypes := #[55] }) (hd : op.dst = none) (mb : Nat) (L : List Ltr) (hx : a.eval x = .map (some mb)) (hM : MapAt w mb L)
    (h : ∀ W, MapAt W mb [] → Kept [mb] w W → wpList Try.prog ops Q rest a W) : wpList Try.prog ops Q (op :: rest) a w :=
  wpList_plain hgd fun K hK => by
    obtain ⟨w', hr, h1, h2⟩ := run_clr w mb L hM
    have hr' : (Builtin.clear_ #[55] op.type #[.map (some mb)]).run Try.prog w = .ok (.tuple #[]) w' := hr
    unfold Oper.wp execOp
    simp only [ho, resolve, invoke, builtin, Sem.run_bind, Sem.run_pure, Result.andThen_ok, List.map_toArray, List.map_cons, List.map_nil, hx, hr']
    have := hK (a.put op.dst (.tuple #[])) w' (by rw [hd]; exact h w' h1 h2)
    exact this
set_option maxHeartbeats 1000000 in
theorem clear25 (b mb : Nat) (v : Value) (N : Nn) (w : World) (h : Nt w b mb v N) : Calls Try.prog 25 #[P0 b] w fun e w' => e = .returned (.int .i64 N.L.length) ∧ Nt w' b mb (.slice none 0 0) ⟨N.nodes, N.last, []⟩ ∧ Kept (nX b mb v) w w' := by
  obtain ⟨oo, oc, rfl, _, _⟩ := owns_vals h.ord
  have PN := hide (none38 b mb _ N w h)
  have hc3 := h.cells.2.2.2
  have hc2 := h.cells.2.2.1
  have HN := hide h
  have HBM : Hid (b ≠ mb) := fun e => map_not_cells h.map h.head e
  clear h
  go_enter Try.func25, Try.ntmps25
  go_wp2_with (
    first
    | (go_at_call 38
       refine (unhide PN).mono ?_
       rintro e V1 ⟨rfl, hw1⟩
       obtain rfl := hw1.symm
       clear hw1
       refine Stp.go ?_))
  constructor
  go_wp2_with (
    first
    | (refine wpClrM (by rfl) (.tmp 14) (by rfl) (by rfl) mb N.L (by kernel_rfl) (unhide HN).map ?_
       intro W1 M1 K1
       have HM := hide M1
       have HK := hide K1
       have HB := hide ((unhide HN).head.kept K1 (by simp; exact unhide HBM))
       clear M1 K1 hc3 hc2
       refine Stp.go ?_))
  constructor
  go_wp2_with (
    first
    | (refine wpStoreV (T := 56) (b := b) (i := 3) (v := .slice none 0 0) (by rfl) (.tmp 17) (.const (.slice none 0 0)) (by rfl) (by rfl) (by kernel_rfl) (by rfl) 58 _ (unhide HB) (st56 _ _ _ _ _ _ _ _ (unhide HB) (by simp)) ?_
       intro W2 B2 K2
       replace HB : Hid (Blk W2 b 58 [.int .i64 N.nodes, .int .i64 N.last, .map (some mb), .slice none 0 0]) := B2
       replace HM := hide ((unhide HM).kept K2 (by simp; exact fun e => unhide HBM e.symm))
       replace HK : Hid (Kept [b, mb] w W2) := ((unhide HK).mono (by simp)).trans (K2.mono (by simp))
       clear B2 K2))
  go_ret
  exact ⟨rfl, ⟨(unhide HN).nodes, unhide HB, unhide HM, World.ownsRow_nil _ _ _ _, by simp, (unhide HN).last, by simp, by simp, by simp, by simp, by simp⟩, (unhide HK).mono (by simp [nX])⟩
theorem res24 (w : World) (z : Nat) (vs : List Value) (f : Bool) (tmps : Array Value) (hl : vs.length = 4) (h4 : tmps[4]?.getD undef = P0 z) (h5 : tmps[5]?.getD undef = .bool f) (hb : Blk w z 47 vs) : (results Try.f24 tmps).run Try.prog w = .ok (.tuple #[aggV vs, .bool f]) w := by
  have := loadV row47 hl hb
  simp [results, Try.results24, h4, h5, this, asAddr]
theorem place_self {L : List Ltr} (hr : L.Pairwise (fun a b => a.num < b.num)) {i : Nat} {l : Ltr} (h : L[i]? = some l) : placeOf l.num L 0 = some (i, l) := by
  have main : ∀ (L : List Ltr) (s i : Nat), L.Pairwise (fun a b => a.num < b.num) → L[i]? = some l → placeOf l.num L s = some (s + i, l) := by
    intro L
    induction L with
    | nil => intro s i _ h; simp at h
    | cons x L ih =>
      intro s i hr h
      rw [List.pairwise_cons] at hr
      unfold placeOf
      cases i with
      | zero =>
        simp at h
        subst h
        simp
      | succ i =>
        have hx : l ∈ L := List.mem_of_getElem? (by simpa using h)
        have := hr.1 l hx
        rw [if_neg (by omega), ih (s + 1) i hr.2 (by simpa using h)]
        congr 2
        omega
  simpa using main L 0 i hr h
set_option maxHeartbeats 1000000 in
theorem at_in (b mb : Nat) (v : Value) (N : Nn) (i : Nat) (l : Ltr) (w : World) (h : Nt w b mb v N) (hl : N.L[i]? = some l) : Calls Try.prog 24 #[P0 b, .int .i64 i] w fun e w' => ∃ u, e = .returned (.tuple #[aggV (l.D u), .bool true]) ∧ Bod w' u l.bs ∧ (∀ j, u.ownBlock = some j → w.heap.size ≤ j) ∧ Kept [] w w' := by
  have hpl := place_self h.rise hl
  obtain ⟨oo, oc, rfl, hVo, _⟩ := owns_vals h.ord
  have hlt : i < N.L.length := (List.getElem?_eq_some_iff.1 hl).1
  have hne : nums N.L ≠ [] := by intro e; have := congrArg List.length e; rw [nums_len] at this; simp at this; rw [this] at hlt; simp at hlt
  obtain ⟨g, off, rfl, hr⟩ := hVo.lies hne
  have hcell := hr i (.int .i64 l.num) (by simp [nums, hl])
  have PT := hide (fun W (hk : Kept [] w W) => len21 b mb _ N W (h.kept0 hk))
  have PL := hide (fun W (hk : Kept [] w W) => look34 b mb _ N l.num W (h.kept0 hk))
  rw [lookL_some hpl, hpl] at PL
  have HC := hide hcell
  have HN := hide h
  have HK := hide (Kept.refl [] w)
  have hi0 : (0 : Int) ≤ i := by omega
  have hi1 : (i : Int) < N.L.length := by omega
  clear h hl hpl hr hcell hne hVo
  go_enter Try.func24, Try.ntmps24
  go_wp2_with (
    first
    | (refine wpAllocW zL alloc47 4 (by rfl) (by rfl) (by rfl) ?_
       intro W2 p2 e2 B2 K2
       have HF2 : Hid (w.heap.size ≤ p2) := by rw [e2]; exact (unhide HK).size
       have HZ := hide B2
       replace HK := hide ((unhide HK).trans K2)
       have hc3 := ((unhide HN).kept0 (unhide HK)).cells.2.2.2
       have hcc := (unhide HK).cell (unhide HC) (by simp)
       clear e2 B2 K2
       refine Stp.go ?_))
  constructor
  go_wp2_with (
    first
    | (go_at_call 21
       refine (unhide PT _ (unhide HK)).mono ?_
       rintro e V1 ⟨rfl, hw1⟩
       obtain rfl := hw1.symm
       clear hw1
       refine Stp.go ?_))
  constructor
  go_wp2_with (
    first
    | (go_at_call 34
       refine (unhide PL _ (unhide HK)).mono ?_
       rintro e W3 ⟨u, rfl, hB, hfr, K3⟩
       have HBU := hide hB
       have HFU : Hid (∀ j, u.ownBlock = some j → w.heap.size ≤ j ∧ j ≠ p2) := fun j hj => by have := hfr j hj; have := (unhide HK).size; have := (unhide HZ).lt; exact ⟨by omega, by omega⟩
       replace HZ := hide ((unhide HZ).kept K3 (by simp))
       replace HK := hide ((unhide HK).trans K3)
       clear hB hfr K3 hc3 hcc
       refine Stp.go ?_))
  constructor
  go_wp2_with (
    first
    | (refine wpStoreW row47 (by rfl) (.tmp 4) (.tmp 24) (by rfl) (by rfl) p2 zL (l.D u) (by kernel_rfl) (by kernel_rfl) rfl (D_one (unhide HBU).one) (unhide HZ) rfl ?_
       intro W5 B5 K5
       replace HZ := hide B5
       replace HBU := hide ((unhide HBU).kept K5 (fun k hk => by have := (unhide HFU k hk).2; simp; omega))
       replace HK := hide ((unhide HK).fresh K5 (fun i hi hl => by have : w.heap.size ≤ p2 := unhide HF2; simp at hi; omega))
       clear B5 K5))
  exact bodyPost_ret (res24 _ p2 (l.D u) true _ rfl rfl rfl (unhide HZ)) rfl ⟨u, rfl, unhide HBU, fun k hk => (unhide HFU k hk).1, unhide HK⟩

end Go.Proofs.Ytpcggcicpojdoaa
