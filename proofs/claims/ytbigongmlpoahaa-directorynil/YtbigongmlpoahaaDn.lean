/-
  Pages: who goes over the pages with their books.
-/
import Derived.Test.YtbigongmlpoahaaDm
namespace Go.Proofs.Ytbigongmlpoahaa.D
set_option maxRecDepth 100000
set_option linter.unusedSimpArgs false
open Go.RowKit Go.Shelf
attribute [local go_sem] Oper.semAt_some


/-- What Pages tells of a lock. -/
def PaE (V : World) (L : List Lk) (k : Nat) (x : Array Value) (W : World) : Prop := ∃ y r1 r2 r3, (rise L)[k]? = some y ∧ x = #[.int .i64 y.k, aggV ((y.s.book y.q).C r1 r2 r3)] ∧ Bk V W (y.s.book y.q) r1 r2 r3
theorem PaE.two {V : World} {L : List Lk} {k : Nat} {x : Array Value} {W : World} (h : PaE V L k x W) : x.size = 2 := by
  obtain ⟨y, _, _, _, _, rfl, _⟩ := h
  rfl
theorem ent56 : Ent 56 := fun vs w => by kernel_rfl
theorem ent88 : Ent 88 := fun vs w => by kernel_rfl
variable {w W V : World} {A b mb c1 c2 : Nat} {L : List Lk} {v : Value} {y : Lk}
theorem res56 (w : World) (z : Nat) (f : Bool) (vs : List Value) (tmps : Array Value) (h2 : tmps[2]?.getD undef = P0 z) (h3 : tmps[3]?.getD undef = .bool f) (hl : vs.length = 17) (hb : Blk w z 40 vs) : (results Try.f56 tmps).run Try.prog w = .ok (.tuple #[aggV vs, .bool f]) w := by
  have := loadV row43 hl hb
  simp [results, Try.results56, h2, h3, this, asAddr]
set_option maxHeartbeats 2000000 in
theorem cl56 (h : Lc A w y) (hA : A ≤ 900) : Calls Try.prog 56 (#[P0 y.p] ++ #[]) w fun e W => ∃ r1 r2 r3, e = .returned (.tuple #[aggV ((y.s.book y.q).C r1 r2 r3), .bool true]) ∧ Bk w W (y.s.book y.q) r1 r2 r3 ∧ Kept [] w W := by
  have H := hide h
  have HLQ : Hid (y.q.length ≤ 1000) := by have := h.gd.len; show _ ≤ _; omega
  clear h
  show Calls Try.prog 56 #[P0 y.p] w _
  go_enter Try.func56, Try.ntmps56
  go_wp2_with (
    first
    | (refine wpAllocW bz43 zero43 2 rfl rfl rfl ?_
       intro W1 z e1 B1 K1
       have HB := hide B1
       have HK := hide K1
       have HZ : Hid (w.heap.size ≤ z) := by show _ ≤ _; omega
       clear e1 B1 K1
       refine Stp.go ?_))
  constructor
  go_wp2_with (
    first
    | (go_at_call 36
       refine (book15 y.s y.ln y.p y.q _ ((unhide H).blk.kept (unhide HK) (by simp)) ((unhide H).row.kept (unhide HK) (fun _ _ => by simp)) (unhide H).gd.ok.ex (unhide HLQ)).mono ?_
       rintro e W3 ⟨x1, x2, x3, rfl, h1, h2⟩
       have HBk := hide h1
       have HKW := HK
       have HZ1 : Hid (z < W1.heap.size) := (unhide HB).lt
       have HOne := hide (BoC_one h1)
       replace HB := hide ((unhide HB).kept h2 (by simp))
       replace HK := hide ((unhide HK).trans h2)
       clear h1 h2
       refine Stp.go ?_))
  constructor
  go_wp2_with (
    first
    | (refine wpStB row43 rfl (.tmp 2) (.tmp 5) rfl z ((y.s.book y.q).C x1 x2 x3) bz43 rfl rfl rfl rfl (by decide) (unhide HOne) (unhide HB) ?_
       intro W2 B2 K2
       replace HB := hide B2
       replace HK := hide ((unhide HK).fresh K2 (fun i hi hl => by simp at hi; have := unhide HZ; omega))
       have HBk2 := hide (((unhide HBk).kept K2 (fun i hi => by simp; have := unhide HZ1; omega)).elder (unhide HKW).size)
       clear B2 K2 HBk
       refine Stp.go ?_))
  constructor
  go_wp2_with fail
  exact bodyPost_ret (res56 _ z true _ _ rfl rfl rfl (unhide HB)) rfl ⟨x1, x2, x3, rfl, unhide HBk2, unhide HK⟩
set_option maxHeartbeats 8000000 in
theorem as88_in (hA : A ≤ 900) (l : Nat) (X : List Nat) (hX : ∀ k ∈ X, k < V.heap.size) (h1 : Blk V c1 42 [P0 b]) (h2 : Blk V c2 99 [fnV 56 #[]]) (hD : Dg A V b mb L) (ho : Off X b mb L [c1, c2]) : ItV 3 88 #[P0 c1, P0 c2] (rise L).length (PaE V L) V l X := by
  intro J Jx hJ hJx hY h0
  have hFw := wideF
  have HX := hide hX
  have HC1 := hide h1
  have HC2 := hide h2
  have HD := hide hD
  have HO := hide ho
  have H0 := hide h0
  have HJ := hide hJ
  have HJX := hide hJx
  have HY := hide hY
  have k0 := fits_cell h1 0 _ rfl
  clear hX h1 h2 hD ho h0 hJ hJx hY
  show CallsIn Fence.wide 3 Try.prog 88 #[.func (.yield l) #[] #[], P0 c1, P0 c2] V _
  refine callsIn_of_wp_marks Try.func88 rfl trivial ?_ rfl
  refine wpIn_wide.2 ?_
  simp only [Try.ntmps88, List.size_toArray, List.length_cons, List.length_nil, Nat.reduceAdd, Nat.reduceSub, Array.replicate_succ, Array.replicate_zero, List.push_toArray, List.append_toArray, List.nil_append, List.cons_append]
  go_wp2_with (
    first
    | (refine wpBoxY rfl (.tmp 0) rfl l rfl ?_
       intro W1 b4 e1 B1 K1
       have HK := hide K1
       have HB4 := hide B1
       have HG4 : Hid (V.heap.size ≤ b4) := by show _ ≤ _; omega
       have k1 := K1.cell k0 (by simp)
       clear e1 B1 K1 k0
       refine Stp.go ?_))
  constructor
  go_wp2_with (
    first
    | (go_at_call 38
       refine (rising38 (some ⟨b, 0, none⟩) _).mono ?_
       rintro e W3 ⟨c3, rfl, hb3, hg3, K3⟩
       have HC3 := hide hb3
       have HG3 : Hid (V.heap.size ≤ c3) := Nat.le_trans (unhide HK).size hg3
       replace HB4 := hide ((unhide HB4).kept K3 (by simp))
       replace HK := hide ((unhide HK).trans K3)
       clear hb3 hg3 K3 k1
       refine Stp.go ?_))
  constructor
  go_wp2_with fail
  refine (wpIn_wide (n := 3)).1 ?_
  refine wp_rangeV 2 73 #[P0 c3] (rise L).length 2 (RiE L) (fun k x W h => h.two) X rfl ent73 rfl (fun k hk => Nat.lt_of_lt_of_le ((unhide HX) k hk) (unhide HK).size) ?it
    (fun k W => J k W ∧ Kept X V W ∧ Blk W b4 117 [.func (.yield l) #[] #[]])
    (fun cd _ W => cd = .ret ∧ (∃ j, j < (rise L).length ∧ Jx (j + 1) W) ∧ Kept X V W) ?i1 ?i2 ?i0
    (fun k a' W => ∃ y, (rise L)[k]? = some y ∧ a' = { tmps := ((#[.func (.yield l) #[] #[], P0 c1, P0 c2, P0 b4, undef, undef, undef, undef, P0 b, fnV 73 #[P0 c3], undef, undef, undef, undef, undef, undef, undef, undef, undef, undef, undef, undef, undef, undef, undef, undef].setIfInBounds 10 (.int .i64 y.k)).setIfInBounds 11 (P0 y.p)).setIfInBounds 4 (.int .i64 y.k) |>.setIfInBounds 5 (P0 y.p), defers := [] }) ?f1 ?ag ?bd ?dn ?st
  case it =>
    intro U hk hs
    have ho := unhide HO
    have hx := unhide HX
    have hD := (unhide HD).step0 ((unhide HK).trans hk)
    have hks := (unhide HK).size
    have hl := (unhide HD).lts
    refine rising73_in _ _ ((unhide HC3).kept hk (by simp)) hD.blk hD.map ⟨A, hD⟩ ?_ ?_ ?_
    · intro e
      rcases List.mem_cons.1 e with e | e
      · have := (unhide HC3).lt; omega
      · have := hx _ e; have := unhide HG3; omega
    · intro e
      rcases List.mem_cons.1 e with e | e
      · omega
      · exact ho.b e
    · intro e
      rcases List.mem_cons.1 e with e | e
      · omega
      · exact ho.mb e
  case i1 =>
    rintro k A1 B1 Z ⟨g1, g2, g3⟩ hk hz
    refine ⟨unhide HJ _ _ _ _ g1 hk (fun i hi => ⟨Nat.le_trans (unhide HK).size (hz i hi).1, (hz i hi).2⟩), g2.fresh hk (fun i hi hl => by have := (hz i hi).1; have := (unhide HK).size; omega), g3.kept hk (fun e => ?_)⟩
    have := (hz _ e).1
    have := (unhide HB4).lt
    omega
  case i2 =>
    rintro cd k A1 B1 Z ⟨g1, ⟨j, hj, g2⟩, g3⟩ hk hz
    exact ⟨g1, ⟨j, hj, unhide HJX _ _ _ _ g2 hk (fun i hi => ⟨Nat.le_trans (unhide HK).size (hz i hi).1, (hz i hi).2⟩)⟩, g3.fresh hk (fun i hi hl => by have := (hz i hi).1; have := (unhide HK).size; omega)⟩
  case i0 => exact ⟨unhide HJ _ _ _ _ (unhide H0) (unhide HK) (by simp), (unhide HK).mono (by simp), unhide HB4⟩
  case f1 => exact fun k a' A1 B1 h _ => h
  case ag =>
    rintro l2 k x W K hkN ⟨y, hy, rfl⟩ hI hsz hK
    simp only [List.zip_toArray, List.zip_cons_cons, List.zip_nil_right, List.foldl_toArray, List.foldl_cons, List.foldl_nil, List.setIfInBounds_toArray, List.set_cons_succ, List.set_cons_zero]
    have HKK := hide (hK _ W (Kept.refl _ _) ⟨y, hy, rfl⟩)
    clear hK hI hy
    simp only [List.setIfInBounds_toArray, List.set_cons_succ, List.set_cons_zero] at HKK
    gi_wp2
    exact unhide HKK
  case bd =>
    rintro l2 k a' W hkN ⟨g1, g2, g3⟩ ⟨y, hy, rfl⟩ hsz
    have hyL : y ∈ L := rise_mem (List.mem_of_getElem? hy)
    have ho := unhide HO
    have HYL := hide (((unhide HD).lk y hyL).kept g2 (ho.lk y hyL).1 (ho.lk y hyL).2)
    have kc2 := fits_cell ((unhide HC2).kept g2 (ho.cs c2 (by simp))) 0 _ rfl
    have kb4 := fits_cell g3 0 _ rfl
    have HG1 := hide g1
    have HG2 := hide g2
    have HB9 := hide g3
    have HSZ : Hid (V.heap.size ≤ W.heap.size) := g2.size
    have HKN := hide hkN
    have HYK := hide hy
    simp only [List.setIfInBounds_toArray, List.set_cons_succ, List.set_cons_zero]
    clear g1 g2 g3 hy hyL ho hsz hkN
    gi_wp2_with (
      first
      | (refine CallsIn.mono (CallsIn.inRound l2 (callsIn_wide.2 (cl56 (unhide HYL) hA))) ?_
         rintro e W5 ⟨r1, r2, r3, rfl, h1, h2⟩
         have HBk := hide (h1.elder (unhide HSZ))
         have HOne := hide (BoC_one h1)
         replace HG1 := hide (unhide HJ _ _ _ _ (unhide HG1) h2 (by simp))
         replace HG2 := hide ((unhide HG2).trans (h2.mono (by simp)))
         replace HB9 := hide ((unhide HB9).kept h2 (by simp))
         have HK5 := hide h2
         clear h1 h2 kc2 kb4
         refine Stp.go ?_))
    constructor
    gi_wp2_with (
      first
      | (refine inNew row43 bz43 rfl zero43 6 (by rfl) (fun _ => trivial) (by rfl) (by rfl) (by rfl) (.tmp 16) (by rfl) (by rfl) (fun _ => by rfl) (by rfl) ((y.s.book y.q).C r1 r2 r3) rfl (unhide HOne) (by rfl) (by rfl) ?_
         intro W6 q6 e6 B6 K6
         have HQ6 := hide B6
         replace HBk := hide ((unhide HBk).kept K6 (fun _ _ => by simp))
         replace HG1 := hide (unhide HJ _ _ _ _ (unhide HG1) K6 (by simp))
         replace HG2 := hide ((unhide HG2).trans (K6.mono (by simp)))
         replace HB9 := hide ((unhide HB9).kept K6 (by simp))
         replace HK5 := hide ((unhide HK5).trans K6)
         have HYY := hide (unhide HY k #[.int .i64 y.k, aggV ((y.s.book y.q).C r1 r2 r3)] W6 (unhide HKN) ⟨y, r1, r2, r3, unhide HYK, rfl, unhide HBk⟩ (unhide HG1) (unhide HG2).size)
         have kb4 := fits_cell (unhide HB9) 0 _ rfl
         clear e6 B6 K6 HBk HG1
         refine Stp.go ?_))
    constructor
    gi_wp2_with (
      first
      | (refine inLoadA row43 wideF (by rfl) (.tmp 6) (by rfl) (by rfl) q6 0 (by rfl) ((y.s.book y.q).C r1 r2 r3) rfl (unhide HQ6).range ?_)
      | (refine inYield (by rfl) 20 #[.tmp 21, .tmp 22] #[3, 40] (by rfl) (by rfl) #[.int .i64 y.k, aggV ((y.s.book y.q).C r1 r2 r3)] (by simp; exact ⟨rfl, rfl⟩) (unhide HYY) ?_
         refine Stp.go ?_))
    constructor
    rintro e W8 K8 (⟨rfl, hI8⟩ | ⟨rfl, hX8⟩)
    · refine ⟨_, rfl, ?_⟩
      have HI8 := hide hI8
      have HK8 := hide K8
      clear hI8 K8 HYY
      gi_wp2_with fail
      refine ⟨((unhide HK5).mono (by simp)).trans (unhide HK8), unhide HI8, (unhide HG2).trans (unhide HK8), (unhide HB9).kept (unhide HK8) (fun e => ?_)⟩
      have := unhide HX _ e
      have := unhide HG4
      omega
    · refine ⟨_, rfl, ?_⟩
      have HX8 := hide hX8
      have HK8 := hide K8
      clear hX8 K8 HYY
      gi_wp2_with fail
      exact ⟨((unhide HK5).mono (by simp)).trans (unhide HK8), rfl, ⟨_, unhide HKN, unhide HX8⟩, (unhide HG2).trans (unhide HK8)⟩
  case dn =>
    intro Wd kD hsz hI hD
    have HKD := hide hI.2.1
    have HDD := hide hD
    have HI9 : Hid (J (rise L).length Wd) := by have h9 := hI.1; exact h9
    have HS3 : Hid (V.heap.size ≤ W3.heap.size) := (unhide HK).size
    clear kD hsz hI hD
    go_wp2_with fail
    refine (show LeavesInM Fence.wide 3 Try.prog Try.f88 _ _ [{ target := .collected W3.heap.size, args := #[] }] .returning Wd from ?_)
    refine ⟨by simp, .inl ⟨_, _, rfl, run_takeDeferred (unhide HDD), ?_⟩⟩
    refine ⟨_, results_none rfl _ _ _, ⟨_, rfl⟩, ?_, .inl (unhide HJ _ _ _ _ (unhide HI9) (Kept.put1 (l := W3.heap.size)) (by intro i hi; simp at hi; subst hi; exact ⟨unhide HS3, noD_mark (unhide HDD)⟩))⟩
    exact (unhide HKD).fresh (Kept.put1 (l := W3.heap.size)) (by intro i hi hl; simp at hi; have := unhide HS3; omega)
  case st =>
    rintro cd k Wd hk kD hsz ⟨rfl, ⟨j, hj, hX8⟩, hK9⟩ hD
    have HKD := hide hK9
    have HDD := hide hD
    have HI9 := hide hX8
    have HKK := hide hj
    have HS3 : Hid (V.heap.size ≤ W3.heap.size) := (unhide HK).size
    clear kD hsz hX8 hD hk hj hK9
    rw [wpIn_wide]
    go_wp2_with fail
    refine (show LeavesInM Fence.wide 3 Try.prog Try.f88 _ _ [{ target := .collected W3.heap.size, args := #[] }] .returning Wd from ?_)
    refine ⟨by simp, .inl ⟨_, _, rfl, run_takeDeferred (unhide HDD), ?_⟩⟩
    refine ⟨_, results_none rfl _ _ _, ⟨_, rfl⟩, ?_, .inr ⟨j, unhide HKK, unhide HJX _ _ _ _ (unhide HI9) (Kept.put1 (l := W3.heap.size)) (by intro i hi; simp at hi; subst hi; exact ⟨unhide HS3, noD_mark (unhide HDD)⟩)⟩⟩
    exact (unhide HKD).fresh (Kept.put1 (l := W3.heap.size)) (by intro i hi hl; simp at hi; have := unhide HS3; omega)

end Go.Proofs.Ytbigongmlpoahaa.D
