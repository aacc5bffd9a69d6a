/-
  Plain facts on what lies in each sector: each place is told of one sector alone.
-/
import Derived.Test.YtcfoebpbbmnleaaApm
namespace Go.Proofs.Ytcfoebpbbmnleaa
open Go.RowKit

/-- How many sectors there are; none of a job that may not be. -/
def Job.N (j : Job) : Nat := if j.may then (j.p * 2 + (j.L + 9)).toNat else 0
theorem Job.N_yes {j : Job} (h : j.may = true) : (j.N : Int) = j.p * 2 + (j.L + 9) := by
  have := Job.L_le h
  have := Job.p_le h
  simp only [Job.N, h, if_true]; omega
theorem Job.N_no {j : Job} (h : j.may = false) : j.N = 0 := by simp [Job.N, h]
theorem Job.N_le (j : Job) : j.N ≤ 1073 := by
  cases h : j.may with
  | false => rw [Job.N_no h]; omega
  | true =>
    have := Job.N_yes h
    have := Job.L_le h
    have := Job.p_le h
    omega
/-- What lies in a sector. -/
def Job.pl (j : Job) (k : Nat) : Pl := (j.of k).1
/-- The sectors' places, as cells. -/
def Job.pre (j : Job) (k : Nat) : List Value := ((List.range k).map (fun s => (j.pl s).C)).flatten
theorem Job.pre_succ (j : Job) (k : Nat) : j.pre (k + 1) = j.pre k ++ (j.pl k).C := by
  simp [Job.pre, List.range_succ]
theorem Job.pre_len (j : Job) (k : Nat) : (j.pre k).length = k * 4 := by
  induction k with
  | zero => rfl
  | succ k ih => rw [Job.pre_succ, List.length_append, ih]; simp [Pl.C, fourC]; omega
theorem Job.pre_get (j : Job) (k n i : Nat) (hk : k < n) (hi : i < 4) : (j.pre n)[k * 4 + i]? = (j.pl k).C[i]? := by
  induction n with
  | zero => omega
  | succ n ih =>
    have hl := Job.pre_len j n
    rw [Job.pre_succ]
    by_cases h : k < n
    · rw [List.getElem?_append_left (by omega)]; exact ih h
    · obtain rfl : k = n := by omega
      rw [List.getElem?_append_right (by omega), hl]
      congr 1; omega
theorem Job.pre_one (j : Job) (k : Nat) : ∀ u ∈ j.pre k, u.oneCell' = true := by
  intro u hu
  simp only [Job.pre, List.mem_flatten, List.mem_map, List.mem_range] at hu
  obtain ⟨l, ⟨s, _, rfl⟩, hu⟩ := hu
  exact fourC_one _ _ _ _ u hu

theorem Pl.ext {p q : Pl} (h1 : p.k = q.k) (h2 : p.n = q.n) (h3 : p.i = q.i) (h4 : p.h = q.h) : p = q := by
  cases p; cases q; simp_all
theorem Pl.C_inj {p q : Pl} (h : p.C = q.C) : p = q := by
  cases p; cases q; simp [Pl.C, fourC] at h; simp [h]
/-- Two places are the same. -/
def Pl.eq (p q : Pl) : Bool := fourEq p.k p.n p.i p.h q.k q.n q.i q.h
theorem Pl.eq_iff (p q : Pl) : p.eq q = true ↔ p = q := by
  constructor
  · intro h
    simp [Pl.eq, fourEq] at h
    exact Pl.ext h.1 h.2.1 h.2.2.1 h.2.2.2
  · rintro rfl; simp [Pl.eq, fourEq]
theorem equalPl (W : World) (p q : Pl) : (Op.equal 37 (aggV p.C) (aggV q.C)).run Try.prog W = .ok (p.eq q) W := equal37 W _ _ _ _ _ _ _ _

/-- The ways of a sector: what lies there. -/
theorem pl_ways {j : Job} (hm : j.may = true) (k : Nat) (hk : k < j.N) :
    (k = 0 ∧ j.pl k = ⟨1, 0, 0, 0⟩) ∨ (∃ n, below n 8 = true ∧ (k : Int) = 1 + n ∧ j.pl k = ⟨2, n, 0, 0⟩) ∨ (∃ n, below n j.n = true ∧ (k : Int) = 9 + n * (1 + 2 * j.l) ∧ j.pl k = ⟨3, n, 0, 0⟩) ∨
    (∃ n i h, below n j.n = true ∧ below i j.l = true ∧ below h 2 = true ∧ (k : Int) = 9 + n * (1 + 2 * j.l) + 1 + 2 * i + h ∧ j.pl k = ⟨4, n, i, h⟩) ∨ (∃ i h, below i j.p = true ∧ below h 2 = true ∧ (k : Int) = j.L + 9 + 2 * i + h ∧ j.pl k = ⟨5, 0, i, h⟩) := by
  have hN := Job.N_yes hm
  have hL := Job.L_le hm
  have hl := Job.l_le hm
  have hP := Job.p_le hm
  rcases find_ways j k with ⟨_, hf⟩ | ⟨_, _, hf⟩ | ⟨_, _, hf⟩ | ⟨_, _, _, hf⟩ | ⟨_, _, _, hf⟩
  · exact .inl ⟨by omega, by simp [Job.pl, Job.of, hm, hf]⟩
  · exact .inr (.inl ⟨(k : Int) - 1, by simp [below]; omega, by omega, by simp [Job.pl, Job.of, hm, hf]⟩)
  · have hr : j.pl k = Job.inLog (((k : Int) - 9) / (1 + 2 * j.l)) (((k : Int) - 9) % (1 + 2 * j.l)) := by simp [Job.pl, Job.of, hm, hf]
    have hd := Int.mul_ediv_add_emod ((k : Int) - 9) (1 + 2 * j.l)
    have hq0 : 0 ≤ ((k : Int) - 9) / (1 + 2 * j.l) := Int.ediv_nonneg (by omega) (by omega)
    have hr0 : 0 ≤ ((k : Int) - 9) % (1 + 2 * j.l) := Int.emod_nonneg _ (by omega)
    have hr1 : ((k : Int) - 9) % (1 + 2 * j.l) < 1 + 2 * j.l := Int.emod_lt_of_pos _ (by omega)
    have hq1 : ((k : Int) - 9) / (1 + 2 * j.l) < j.n := Int.ediv_lt_of_lt_mul (by omega) (by have : j.n * (1 + 2 * j.l) = j.L := rfl; omega)
    rw [Int.mul_comm] at hd
    generalize ((k : Int) - 9) / (1 + 2 * j.l) = q at *
    generalize ((k : Int) - 9) % (1 + 2 * j.l) = r at *
    by_cases h : r = 0
    · exact .inr (.inr (.inl ⟨q, by simp [below]; omega, by omega, by rw [hr]; simp [Job.inLog, h]⟩))
    · exact .inr (.inr (.inr (.inl ⟨q, (r - 1) / 2, (r - 1) % 2, by simp [below]; omega, by simp [below]; omega, by simp [below]; omega, by omega, by rw [hr]; simp [Job.inLog, h]⟩)))
  · exact .inr (.inr (.inr (.inr ⟨((k : Int) - (j.L + 9)) / 2, ((k : Int) - (j.L + 9)) % 2, by simp [below]; omega, by simp [below]; omega, by omega, by simp [Job.pl, Job.of, hm, hf]⟩)))
  · omega

/-- The sector of a place. -/
def Job.pos (j : Job) (p : Pl) : Int := if p.k = 1 then 0 else if p.k = 2 then 1 + p.n else if p.k = 3 then 9 + p.n * (1 + 2 * j.l) else if p.k = 4 then 9 + p.n * (1 + 2 * j.l) + 1 + 2 * p.i + p.h else j.L + 9 + 2 * p.i + p.h
theorem pos_pl {j : Job} (hm : j.may = true) (k : Nat) (hk : k < j.N) : j.pos (j.pl k) = k := by
  rcases pl_ways hm k hk with ⟨h, e⟩ | ⟨n, _, h, e⟩ | ⟨n, _, h, e⟩ | ⟨n, i, g, _, _, _, h, e⟩ | ⟨i, g, _, _, h, e⟩
  · rw [e, h]; simp [Job.pos]
  · rw [e, h]; simp [Job.pos]
  · rw [e, h]; simp [Job.pos]
  · rw [e, h]; simp [Job.pos]
  · rw [e, h]; simp [Job.pos]

/-- Where a place lies. -/
def Job.where? (j : Job) (p : Pl) : Int × Int := if (List.range j.N).any (fun k => (j.pl k).eq p) then (j.pos p, 0) else (0, 2)
theorem where_yes {j : Job} (hm : j.may = true) (p : Pl) (k : Nat) (hk : k < j.N) (h : j.pl k = p) : j.where? p = ((k : Int), 0) ∧ ∀ i, i < k → ¬ (j.pl i).eq p = true := by
  constructor
  · have : (List.range j.N).any (fun k => (j.pl k).eq p) = true := by
      rw [List.any_eq_true]
      exact ⟨k, List.mem_range.2 hk, (Pl.eq_iff _ _).2 h⟩
    rw [Job.where?, if_pos this, ← h, pos_pl hm k hk]
  · intro i hi he
    have e := (Pl.eq_iff _ _).1 he
    have h1 := pos_pl hm i (by omega)
    have h2 := pos_pl hm k hk
    rw [e] at h1
    rw [h] at h2
    omega
theorem where_no {j : Job} (p : Pl) (h : ∀ k, k < j.N → ¬ j.pl k = p) : j.where? p = (0, 2) := by
  have : ¬ (List.range j.N).any (fun k => (j.pl k).eq p) = true := by
    rw [List.any_eq_true]
    rintro ⟨k, hk, he⟩
    exact h k (List.mem_range.1 hk) ((Pl.eq_iff _ _).1 he)
  rw [Job.where?, if_neg this]

theorem pl_lease {j : Job} (hm : j.may = true) (n : Int) (h : below n 8 = true) : ∃ k : Nat, k < j.N ∧ (k : Int) = 1 + n ∧ j.pl k = ⟨2, n, 0, 0⟩ := by
  have hn : 0 ≤ n ∧ n < 8 := by simpa [below] using h
  have hN := Job.N_yes hm
  have hL := Job.L_le hm
  have hP := Job.p_le hm
  obtain ⟨k, hk⟩ : ∃ k : Nat, (k : Int) = 1 + n := ⟨(1 + n).toNat, by omega⟩
  refine ⟨k, by omega, hk, ?_⟩
  rcases find_ways j k with ⟨_, hf⟩ | ⟨_, _, hf⟩ | ⟨_, _, hf⟩ | ⟨_, _, _, hf⟩ | ⟨_, _, _, hf⟩
  · omega
  · have : (k : Int) - 1 = n := by omega
    simp [Job.pl, Job.of, hm, hf, this]
  · omega
  · omega
  · omega
theorem pl_head {j : Job} (hm : j.may = true) (n : Int) (h : below n j.n = true) : ∃ k : Nat, k < j.N ∧ (k : Int) = 9 + n * (1 + 2 * j.l) ∧ j.pl k = ⟨3, n, 0, 0⟩ := by
  have hnl := node_le hm h
  have hN := Job.N_yes hm
  have hl := Job.l_le hm
  have hP := Job.p_le hm
  obtain ⟨k, hk⟩ : ∃ k : Nat, (k : Int) = 9 + n * (1 + 2 * j.l) := ⟨(9 + n * (1 + 2 * j.l)).toNat, by omega⟩
  refine ⟨k, by omega, hk, ?_⟩
  have := of_log hm n 0 h (by omega)
  rw [Int.add_zero, ← hk] at this
  simp [Job.pl, this, Job.inLog]
theorem pl_rec {j : Job} (hm : j.may = true) (n i g : Int) (h : below n j.n = true) (hi : 0 ≤ i ∧ i < j.l) (hg : g = 0 ∨ g = 1) : ∃ k : Nat, k < j.N ∧ (k : Int) = 9 + n * (1 + 2 * j.l) + 1 + 2 * i + g ∧ j.pl k = ⟨4, n, i, g⟩ := by
  have hnl := node_le hm h
  have hN := Job.N_yes hm
  have hl := Job.l_le hm
  have hP := Job.p_le hm
  obtain ⟨k, hk⟩ : ∃ k : Nat, (k : Int) = 9 + n * (1 + 2 * j.l) + 1 + 2 * i + g := ⟨(9 + n * (1 + 2 * j.l) + 1 + 2 * i + g).toNat, by omega⟩
  refine ⟨k, by omega, hk, ?_⟩
  have := of_log hm n (1 + 2 * i + g) h (by omega)
  rw [show 9 + (n * (1 + 2 * j.l) + (1 + 2 * i + g)) = k by omega] at this
  have h1 : ¬ (1 + 2 * i + g = 0) := by omega
  have h2 : (1 + 2 * i + g - 1) / 2 = i := by omega
  have h3 : (1 + 2 * i + g - 1) % 2 = g := by omega
  simp [Job.pl, this, Job.inLog, h1, h2, h3]
theorem pl_page {j : Job} (hm : j.may = true) (i g : Int) (h : below i j.p = true) (hg : g = 0 ∨ g = 1) : ∃ k : Nat, k < j.N ∧ (k : Int) = j.L + 9 + 2 * i + g ∧ j.pl k = ⟨5, 0, i, g⟩ := by
  have hi : 0 ≤ i ∧ i < j.p := by simpa [below] using h
  have hN := Job.N_yes hm
  have hL := Job.L_le hm
  obtain ⟨k, hk⟩ : ∃ k : Nat, (k : Int) = j.L + 9 + 2 * i + g := ⟨(j.L + 9 + 2 * i + g).toNat, by omega⟩
  refine ⟨k, by omega, hk, ?_⟩
  rcases find_ways j k with ⟨_, hf⟩ | ⟨_, _, hf⟩ | ⟨_, _, hf⟩ | ⟨_, _, _, hf⟩ | ⟨_, _, _, hf⟩
  · omega
  · omega
  · omega
  · have h1 : ((k : Int) - (j.L + 9)) / 2 = i := by omega
    have h2 : ((k : Int) - (j.L + 9)) % 2 = g := by omega
    simp [Job.pl, Job.of, hm, hf, h1, h2]
  · omega

/-- Where a lease, a head, a record, a page lie: as told by the list. -/
theorem where_lease (j : Job) (n : Int) : j.where? ⟨2, n, 0, 0⟩ = j.lease n := by
  cases hm : j.may with
  | false => rw [where_no _ (fun k hk => by rw [Job.N_no hm] at hk; omega)]; simp [Job.lease, hm]
  | true =>
    cases h : below n 8 with
    | true =>
      obtain ⟨k, hk, e, hp⟩ := pl_lease hm n h
      rw [(where_yes hm _ k hk hp).1, e]; simp [Job.lease, hm, h]
    | false =>
      rw [where_no]
      · simp [Job.lease, h]
      · intro k hk e
        rcases pl_ways hm k hk with ⟨_, e'⟩ | ⟨n', h', _, e'⟩ | ⟨_, _, _, e'⟩ | ⟨_, _, _, _, _, _, _, e'⟩ | ⟨_, _, _, _, _, e'⟩
        all_goals rw [e'] at e; simp at e
        rw [e, h] at h'; cases h'
theorem where_head (j : Job) (n : Int) : j.where? ⟨3, n, 0, 0⟩ = j.head n := by
  cases hm : j.may with
  | false => rw [where_no _ (fun k hk => by rw [Job.N_no hm] at hk; omega)]; simp [Job.head, hm]
  | true =>
    cases h : below n j.n with
    | true =>
      obtain ⟨k, hk, e, hp⟩ := pl_head hm n h
      rw [(where_yes hm _ k hk hp).1, e]; simp [Job.head, hm, h]
    | false =>
      rw [where_no]
      · simp [Job.head, h]
      · intro k hk e
        rcases pl_ways hm k hk with ⟨_, e'⟩ | ⟨_, _, _, e'⟩ | ⟨n', h', _, e'⟩ | ⟨_, _, _, _, _, _, _, e'⟩ | ⟨_, _, _, _, _, e'⟩
        all_goals rw [e'] at e; simp at e
        rw [e, h] at h'; cases h'
theorem where_page (j : Job) (p : Int) : j.where? ⟨5, 0, p, 0⟩ = j.page p := by
  cases hm : j.may with
  | false => rw [where_no _ (fun k hk => by rw [Job.N_no hm] at hk; omega)]; simp [Job.page, hm]
  | true =>
    cases h : below p j.p with
    | true =>
      obtain ⟨k, hk, e, hp⟩ := pl_page hm p 0 h (.inl rfl)
      rw [(where_yes hm _ k hk hp).1, e]; simp [Job.page, hm, h]
    | false =>
      rw [where_no]
      · simp [Job.page, h]
      · intro k hk e
        rcases pl_ways hm k hk with ⟨_, e'⟩ | ⟨_, _, _, e'⟩ | ⟨_, _, _, e'⟩ | ⟨_, _, _, _, _, _, _, e'⟩ | ⟨i, g, h', _, _, e'⟩
        all_goals rw [e'] at e; simp at e
        rw [e.1, h] at h'; cases h'
/-- The document's Record. -/
theorem where_rec (j : Job) (n s : Int) : (if j.may && lsnB s then j.where? ⟨4, n, j.m s, 0⟩ else (0, 2)) = j.record n s := by
  cases hm : j.may with
  | false => simp [Job.record, hm]
  | true =>
    cases hs : lsnB s with
    | false => simp [Job.record, hs]
    | true =>
      have hms := Job.m_le hm s
      cases h : below n j.n with
      | true =>
        obtain ⟨k, hk, e, hp⟩ := pl_rec hm n (j.m s) 0 h hms (.inl rfl)
        rw [Bool.and_self, if_pos rfl, (where_yes hm _ k hk hp).1, e, record_yes hm h hs]
        simp [Job.at]
      | false =>
        rw [Bool.and_self, if_pos rfl, where_no]
        · rw [record_no (by simp [h])]
        · intro k hk e
          rcases pl_ways hm k hk with ⟨_, e'⟩ | ⟨_, _, _, e'⟩ | ⟨_, _, _, e'⟩ | ⟨n', _, _, h', _, _, _, e'⟩ | ⟨_, _, _, _, _, e'⟩
          all_goals rw [e'] at e; simp at e
          rw [e.1, h] at h'; cases h'

end Go.Proofs.Ytcfoebpbbmnleaa
