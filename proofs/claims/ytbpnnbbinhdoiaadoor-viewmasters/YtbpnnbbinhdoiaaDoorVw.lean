/-
  What follows: each page has one master, and the shares differ by one at most.
-/
import Derived.Test.YtbpnnbbinhdoiaaDoorVp
import Derived.Test.YtbpnnbbinhdoiaaDoorVt
namespace Go.Proofs.YtbpnnbbinhdoiaaDoor
set_option maxRecDepth 100000
open Go.RowKit


/-- How many of 16 pages the member at the place i has, if there are N. -/
def shr (N i : Nat) : Nat := ((List.range 16).filter (fun p => decide (p % N = i))).length
/-- The least share, the greatest one, and their sum, of the first k members. -/
def fold3 (N : Nat) : Nat → Nat × Nat × Nat
  | 0 => (16, 0, 0)
  | k + 1 => (min (fold3 N k).1 (shr N k), max (fold3 N k).2.1 (shr N k), (fold3 N k).2.2 + shr N k)
theorem fold3_end : ∀ N, 1 ≤ N → N ≤ 8 → (fold3 N N).2.2 = 16 ∧ (fold3 N N).2.1 ≤ (fold3 N N).1 + 1 := by
  intro N h1 h8
  have : ∀ N, N < 9 → 1 ≤ N → (fold3 N N).2.2 = 16 ∧ (fold3 N N).2.1 ≤ (fold3 N N).1 + 1 := by decide
  exact this N (by omega) h1
theorem fold3_small : ∀ N k, N ≤ 8 → k ≤ 8 → (fold3 N k).1 ≤ 16 ∧ (fold3 N k).2.1 ≤ 16 ∧ (fold3 N k).2.2 ≤ 200 := by
  intro N k hN hk
  have hs : ∀ i, shr N i ≤ 16 := by
    intro i
    unfold shr
    have := List.length_filter_le (fun p => decide (p % N = i)) (List.range 16)
    simpa using this
  have : ∀ k, (fold3 N k).1 ≤ 16 ∧ (fold3 N k).2.1 ≤ 16 ∧ (fold3 N k).2.2 ≤ 16 * k := by
    intro k
    induction k with
    | zero => simp [fold3]
    | succ k ih =>
      have := hs k
      simp only [fold3]
      omega
  have := this k
  omega
theorem shr_small (N i : Nat) : shr N i ≤ 16 := by
  unfold shr
  have := List.length_filter_le (fun p => decide (p % N = i)) (List.range 16)
  simpa using this
theorem memF_mono : ∀ (l : List (Bool × Int)) (i : Nat), (memF i l).Pairwise (fun x y => x.1 < y.1) := by
  intro l
  induction l with
  | nil => intro i; simp [memF]
  | cons m l ih =>
    intro i
    unfold memF
    split
    · refine List.pairwise_cons.2 ⟨fun y hy => ?_, ih (i + 1)⟩
      have := (memF_lt l (i + 1) y hy).1
      show i < y.1
      omega
    · exact ih (i + 1)
theorem memF_take_le : ∀ (l : List (Bool × Int)) (i j : Nat), (memF i (l.take j)) = (memF i l).take (memF i (l.take j)).length := by
  intro l
  induction l with
  | nil => intro i j; simp [memF]
  | cons m l ih =>
    intro i j
    cases j with
    | zero => simp [memF]
    | succ j =>
      rw [List.take_succ_cons]
      unfold memF
      split
      · simp only [List.length_cons, List.take_succ_cons]
        rw [← ih (i + 1) j]
      · exact ih (i + 1) j
/-- The member at the node n stands in its place. -/
theorem list_at {ms : List (Bool × Int)} {n : Nat} {e : Int} (h : ms[n]? = some (true, e)) : (memF 0 ms)[(memF 0 (ms.take n)).length]? = some (n, e) := by
  have h1 := memF_take ms 0 n (true, e) h
  simp at h1
  have h2 := memF_take_le ms 0 (n + 1)
  rw [h1] at h2
  have h3 := congrArg (fun l => l[(memF 0 (ms.take n)).length]?) h2
  simp at h3
  exact h3.symm
theorem has_in {v : Vw} (hm : v.may = true) {i n : Nat} {e : Int} (hi : v.list[i]? = some (n, e)) (p : Nat) : v.has n p = decide (p % v.list.length = i) := by
  obtain ⟨hil, _⟩ := List.getElem?_eq_some_iff.1 hi
  have hN : 0 < v.list.length := by omega
  have hpN : p % v.list.length < v.list.length := Nat.mod_lt _ hN
  unfold Vw.has Vw.master
  rw [if_neg (by omega)]
  have e1 : ((p : Int) % (v.list.length : Int)).toNat = p % v.list.length := by omega
  simp only [Bool.true_and]
  rw [e1, List.getElem?_eq_getElem hpN]
  have hpw : v.list.Pairwise (fun x y => x.1 < y.1) := by unfold Vw.list; rw [hm, if_pos rfl]; exact memF_mono _ _
  rw [decide_eq_decide]
  simp only [Option.getD_some]
  have hin : v.list[i] = (n, e) := by rw [List.getElem?_eq_getElem hil] at hi; exact Option.some.inj hi
  constructor
  · intro h
    by_cases he : p % v.list.length = i
    · exact he
    · exfalso
      have hlt := List.pairwise_iff_getElem.1 hpw
      rcases Nat.lt_or_gt_of_ne he with h9 | h9
      · have := hlt _ _ hpN hil h9
        rw [hin] at this
        simp at this
        omega
      · have := hlt _ _ hil hpN h9
        rw [hin] at this
        simp at this
        omega
  · intro h
    subst h
    rw [hin]
theorem share_in {v : Vw} (hm : v.may = true) {i n : Nat} {e : Int} (hi : v.list[i]? = some (n, e)) : (v.pgs n 16).length = shr v.list.length i := by
  unfold Vw.pgs shr
  rw [List.length_map]
  congr 1
  exact List.filter_congr (fun p _ => has_in hm hi p)
theorem share_out {v : Vw} (hm : v.may = true) {n : Nat} {e : Int} (hn : v.ms[n]? = some (false, e)) : (v.pgs n 16).length = 0 := by
  unfold Vw.pgs
  rw [List.length_map, List.length_eq_zero_iff, List.filter_eq_nil_iff]
  intro p _ h
  unfold Vw.has Vw.master at h
  split at h
  · simp at h
  · rename_i hc
    have hN : 0 < v.list.length := by omega
    have hpN : ((p : Int) % (v.list.length : Int)).toNat < v.list.length := by have := Int.emod_lt_of_pos (p : Int) (b := (v.list.length : Int)) (by omega); omega
    rw [List.getElem?_eq_getElem hpN] at h
    simp at h
    have hmem : v.list[((p : Int) % (v.list.length : Int)).toNat] ∈ v.list := List.getElem_mem _
    obtain ⟨x, hx⟩ : ∃ x, x = v.list[((p : Int) % (v.list.length : Int)).toNat] := ⟨_, rfl⟩
    rw [← hx] at h hmem
    have hmem2 : x ∈ memF 0 v.ms := by
      unfold Vw.list at hmem
      rw [hm, if_pos rfl] at hmem
      exact hmem
    have := (memF_lt v.ms 0 x hmem2).2.2
    rw [Nat.sub_zero, show x.1 = n by omega, hn] at this
    cases this
/-- What Join and Out answer may be. -/
theorem next_may {v : Vw} (hm : v.may = true) (hok : v.Ok) {f n : Int} {m : Bool × Int} {u : Vw} (h : nextV v f n m = (u, 0)) (hmk : memOk m = true) (hf : (⟨v.nu + 1, false, f, v.ms.set n.toNat m⟩ : Vw).isIn f = true) : u.may = true ∧ u.nu = v.nu + 1 ∧ u.op = false ∧ u.isIn u.fd = true ∧ u.Ok := by
  have hnu := may_nu hm
  unfold nextV at h
  split at h
  · simp at h
  · rename_i hb
    have hu : u = ⟨v.nu + 1, false, f, v.ms.set n.toNat m⟩ := by
      have := congrArg Prod.fst h
      exact this.symm
    subst hu
    have hall : ∀ q ∈ v.ms, memOk q = true := by
      intro q hq
      obtain ⟨i, hi, rfl⟩ := List.getElem_of_mem hq
      have h8 := hok.len
      have := may_mem hm hok.len (n := (i : Int)) (by omega) (by omega)
      unfold Vw.mem at this
      rw [List.getD_eq_getElem?_getD, Int.toNat_natCast, List.getElem?_eq_getElem hi] at this
      exact this
    have hset : ∀ q ∈ v.ms.set n.toNat m, memOk q = true := by
      intro q hq
      rcases List.mem_or_eq_of_mem_set hq with h | h
      · exact hall q h
      · rw [h]; exact hmk
    refine ⟨?_, rfl, rfl, hf, ⟨⟨by show _ ≤ v.nu + 1; omega, by show v.nu + 1 ≤ _; omega⟩, ?_, by simp [hok.len], ?_⟩⟩
    · unfold Vw.may
      rw [if_neg (by show ¬ v.nu + 1 = 0; omega)]
      simp only [Bool.and_eq_true, decide_eq_true_eq, List.all_eq_true]
      exact ⟨by omega, hf, hset⟩
    · have : isNo f = true := by unfold Vw.isIn at hf; simp at hf; exact hf.1
      simp [isNo] at this
      exact ⟨by show _ ≤ f; omega, by show f ≤ _; omega⟩
    · intro q hq
      have := hset q hq
      unfold memOk isEp at this
      split at this
      · simp at this; exact ⟨by omega, by omega⟩
      · simp at this; exact ⟨by omega, by omega⟩
theorem join_may {v : Vw} (hm : v.may = true) (hok : v.Ok) {n e : Int} {u : Vw} (h : joinV v n e = (u, 0)) : u.may = true ∧ u.nu = v.nu + 1 ∧ u.op = false ∧ u.isIn u.fd = true ∧ u.Ok := by
  unfold joinV at h
  split at h
  · simp at h
  · split at h
    · simp at h
    · rename_i h1 h2
      simp [hm] at h1
      refine next_may hm hok h (by simpa [memOk] using h1.2) ?_
      have hn : 0 ≤ n ∧ n < 8 := by simpa [isNo] using h1.1
      have h8 := hok.len
      unfold Vw.isIn Vw.mem
      rw [h1.1, Bool.true_and]
      simp [List.getD_eq_getElem?_getD, show n.toNat < v.ms.length by omega]
theorem out_may {v : Vw} (hm : v.may = true) (hok : v.Ok) {f n : Int} {u : Vw} (h : outV v f n = (u, 0)) : u.may = true ∧ u.nu = v.nu + 1 ∧ u.op = false ∧ u.isIn u.fd = true ∧ u.Ok := by
  unfold outV at h
  split at h
  · simp at h
  · split at h
    · simp at h
    · rename_i h1 h2
      simp [hm] at h1 h2
      refine next_may hm hok h rfl ?_
      have hf : 0 ≤ f ∧ f < 8 := by simpa [isNo] using h1.1
      have hn : 0 ≤ n ∧ n < 8 := by simpa [isNo] using h1.2.1
      have h8 := hok.len
      have hi := h2.1
      unfold Vw.isIn Vw.mem at hi ⊢
      rw [h1.1, Bool.true_and] at hi ⊢
      have hne : n.toNat ≠ f.toNat := by have := h1.2.2; omega
      simp only [List.getD_eq_getElem?_getD] at hi ⊢
      rw [List.getElem?_set_ne hne]
      exact hi

end Go.Proofs.YtbpnnbbinhdoiaaDoor
