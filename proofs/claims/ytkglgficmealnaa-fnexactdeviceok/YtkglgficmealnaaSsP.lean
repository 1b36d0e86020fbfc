/- Sessions: what makes one right; the map of skipped keys as a list; pure. -/
import Derived.Test.YtkglgficmealnaaRwSkip
import Derived.Test.YtkglgficmealnaaMp1
import Derived.Test.YtkglgficmealnaaKn
namespace Go.Proofs.Ytkglgficmealnaa
open Go.RowKit Go.My Go.Lib
set_option linter.unusedVariables false

def mkOf (x : SkipT) : Mk := (x.1, x.2.1)
/-- A key comes in: an elder one of this mark goes. -/
def kvPut (kv : KV) (a : Mk) (k : ByteArray) : KV := kv.filter (fun x => decide (x.1 ≠ a)) ++ [(a, k)]
def Unlike (kv : KV) : Prop := kv.Pairwise (fun x y => x.1 ≠ y.1)
theorem Unlike.nodup {kv : KV} (h : Unlike kv) : (kv.map (·.1)).Nodup := List.pairwise_map.2 h
theorem kvPut_unlike {kv : KV} {a : Mk} {k : ByteArray} (h : Unlike kv) : Unlike (kvPut kv a k) := by
  refine List.pairwise_append.2 ⟨h.filter _, List.pairwise_singleton _ _, fun x hx y hy => ?_⟩
  rw [List.mem_singleton.1 hy]
  exact of_decide_eq_true (List.mem_filter.1 hx).2
theorem kvPut_mem {kv : KV} {a : Mk} {k : ByteArray} (b : Mk) : b ∈ (kvPut kv a k).map (·.1) ↔ b ∈ kv.map (·.1) ∨ b = a := by
  unfold kvPut
  rw [List.map_append, List.mem_append]
  constructor
  · rintro (h | h)
    · obtain ⟨x, hx, rfl⟩ := List.mem_map.1 h
      exact .inl (List.mem_map.2 ⟨x, (List.mem_filter.1 hx).1, rfl⟩)
    · exact .inr (List.mem_singleton.1 h)
  · rintro (h | h)
    · by_cases c : b = a
      · exact .inr (List.mem_singleton.2 c)
      · obtain ⟨x, hx, rfl⟩ := List.mem_map.1 h
        exact .inl (List.mem_map.2 ⟨x, List.mem_filter.2 ⟨hx, decide_eq_true c⟩, rfl⟩)
    · exact .inr (List.mem_singleton.2 h)
theorem filter_all {kv : KV} {a : Mk} (h : a ∉ kv.map (·.1)) : kv.filter (fun x => decide (x.1 ≠ a)) = kv := by
  refine List.filter_eq_self.2 (fun x hx => decide_eq_true (fun c => h ?_))
  exact List.mem_map.2 ⟨x, hx, c⟩
theorem filter_one : ∀ {kv : KV} {a : Mk}, Unlike kv → a ∈ kv.map (·.1) → (kv.filter (fun x => decide (x.1 ≠ a))).length + 1 = kv.length
  | [], a, _, h => by cases h
  | x :: kv, a, hu, h => by
    have hu := List.pairwise_cons.1 hu
    by_cases c : x.1 = a
    · rw [List.filter_cons_of_neg (by simpa using c), filter_all (fun hm => ?_)]
      · rfl
      · obtain ⟨y, hy, e⟩ := List.mem_map.1 hm
        exact hu.1 y hy (c.trans e.symm)
    · rw [List.filter_cons_of_pos (by simpa using c)]
      have hm : a ∈ kv.map (·.1) := by
        rcases List.mem_cons.1 h with e | e
        · exact absurd e.symm c
        · exact e
      have := filter_one hu.2 hm
      show _ + 1 + 1 = kv.length + 1
      omega
theorem kvPut_len {kv : KV} {a : Mk} {k : ByteArray} (h : Unlike kv) : ((kvPut kv a k).length = kv.length + 1 ↔ a ∉ kv.map (·.1)) ∧ (kvPut kv a k).length ≤ kv.length + 1 := by
  unfold kvPut
  rw [List.length_append]
  show (_ + 1 = _ ↔ _) ∧ _ + 1 ≤ _
  by_cases c : a ∈ kv.map (·.1)
  · have := filter_one h c
    exact ⟨⟨fun e => by omega, fun e => absurd c e⟩, by omega⟩
  · rw [filter_all c]
    exact ⟨⟨fun _ => c, fun _ => rfl⟩, Nat.le_refl _⟩
def kvOf (K : List SkipT) : KV := K.foldl (fun kv x => kvPut kv (mkOf x) x.2.2) []
theorem kvOf_next (K : List SkipT) (x : SkipT) : kvOf (K ++ [x]) = kvPut (kvOf K) (mkOf x) x.2.2 := by
  unfold kvOf
  rw [List.foldl_append]
  rfl
structure KvF (K : List SkipT) : Prop where
  un : Unlike (kvOf K)
  mem : ∀ a, a ∈ (kvOf K).map (·.1) ↔ a ∈ K.map mkOf
  le : (kvOf K).length ≤ K.length
  full : (kvOf K).length = K.length ↔ (K.map mkOf).Nodup
theorem kvOf_nil : KvF [] := ⟨List.Pairwise.nil, fun a => Iff.rfl, Nat.le_refl _, ⟨fun _ => List.nodup_nil, fun _ => rfl⟩⟩
theorem kvOf_snoc {K : List SkipT} (h : KvF K) (x : SkipT) : KvF (K ++ [x]) := by
  have hl := kvPut_len (a := mkOf x) (k := x.2.2) h.un
  have hle := h.le
  have hn : (K ++ [x]).length = K.length + 1 := by rw [List.length_append]; rfl
  refine ⟨?_, fun a => ?_, ?_, ?_⟩
  · rw [kvOf_next]; exact kvPut_unlike h.un
  · rw [kvOf_next, kvPut_mem, h.mem, List.map_append, List.mem_append]
    show _ ↔ _ ∨ a ∈ [mkOf x]
    rw [List.mem_singleton]
  · rw [kvOf_next, hn]; omega
  · rw [kvOf_next, hn, List.map_append]
    show _ ↔ (K.map mkOf ++ [mkOf x]).Nodup
    rw [List.nodup_append]
    constructor
    · intro e
      have h1 : (kvOf K).length = K.length := by omega
      have h2 := hl.1.1 (by omega)
      refine ⟨h.full.1 h1, by simp, fun a ha b hb => ?_⟩
      rw [List.mem_singleton.1 hb]
      intro c
      subst c
      exact h2 ((h.mem _).2 ha)
    · rintro ⟨h1, _, h2⟩
      have h3 := h.full.2 h1
      have h4 := hl.1.2 (fun c => h2 _ ((h.mem _).1 c) (mkOf x) (List.mem_singleton.2 rfl) rfl)
      omega
theorem kvOf_all (K : List SkipT) : KvF K := by
  have : ∀ (n : Nat) (K : List SkipT), K.length = n → KvF K := by
    intro n
    induction n with
    | zero => intro K h; rw [List.eq_nil_of_length_eq_zero h]; exact kvOf_nil
    | succ n ih =>
      intro K h
      have hne : K ≠ [] := by intro c; rw [c] at h; cases h
      rw [← List.dropLast_concat_getLast hne]
      exact kvOf_snoc (ih _ (by rw [List.length_dropLast]; omega)) _
  exact this _ K rfl

def skipB (x : SkipT) : Bool := k32 x.1 && cntB x.2.1 && k32 x.2.2
def skipsB (K : List SkipT) : Bool := decide (K.length ≤ 20) && K.all skipB && decide ((K.map mkOf).Nodup)

end Go.Proofs.Ytkglgficmealnaa
