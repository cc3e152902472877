/- The contracts of slices.Delete of one element, at attributes and at values, on a row of the call's own. -/
import Derived.Test.YteokcgfbhaeklaaGreatDoorPCopy
import Derived.Laws.IdiomCopy
import Derived.Lib.SliceRun
namespace Go.Proofs.YteokcgfbhaeklaaGreatDoor
open Go.RowKit

theorem own_setCells {base : Nat} {e : TypeId} {g : Nat} : ∀ (vs : List Value) (o : Nat) (w : World) (cur : Array Value), w.heap[g]? = some (.cells cur e (0, 0)) → ∃ cur', (w.setCells g o vs).heap[g]? = some (.cells cur' e (0, 0)) ∧ cur'.size = cur.size
  | [], _, _, cur, h => ⟨cur, h, rfl⟩
  | v :: r, o, w, cur, h => by
    obtain ⟨cur', h1, h2⟩ := own_setCells (base := base) r (o + 1) (w.setCell ⟨g, o, none⟩ v) _ (heap_setCell_same w g o cur e v h)
    exact ⟨cur', h1, by rw [h2]; simp⟩
theorem own_of_cells {w : World} {base : Nat} {e : TypeId} {sz g m cap : Nat} {cur : Array Value} {ys : List Value} (hg : w.heap[g]? = some (.cells cur e (0, 0))) (hs : cur.size = cap * sz) (hb : base ≤ g) (hm : m ≤ cap) (hc : cap ≤ maxLen) (hl : ys.length = m * sz)
    (hy : ∀ j, j < m * sz → w.cell? ⟨g, j, none⟩ = ys[j]?) : w.ownsRow base e sz (.slice (some ⟨g, 0, none⟩) m cap) m ys := by
  refine ⟨hl, Or.inr ⟨g, cap, cur, rfl, hb, hg, hm, hc, hs, ?_⟩⟩
  apply List.ext_getElem?
  intro j
  by_cases hj : j < m * sz
  · rw [List.getElem?_take_of_lt hj, ← hy j hj, Array.getElem?_toList]
    simp [World.cell?, hg]
  · rw [List.getElem?_take_eq_none (by omega), List.getElem?_eq_none (by omega)]
theorem setCells_tch (g : Nat) : ∀ (vs : List Value) (o : Nat) (w : World), w.grownBy (w.setCells g o vs) (some g)
  | [], _, w => World.grownBy.refl w _
  | v :: r, o, w => by
    have h1 : w.grownBy (w.setCell ⟨g, o, none⟩ v) (some g) := ⟨rfl, rfl, rfl, by simp, fun k _ hk => Below.heap_setCell _ _ _ _ (fun e => hk (by rw [e]))⟩
    exact h1.trans (setCells_tch g r (o + 1) _)
theorem run_clear1 (w : World) (t e ty : TypeId) (z : Value) (ht : Tryz.prog.underlying t = some (.slice e)) (hv : ∀ w, (zeroValue e).run Tryz.prog w = .ok z w) (h1 : ∀ u ∈ z.cells.toList, u.oneCell' = true) (b o c : Nat)
    (hc : ∀ j, j < z.cells.size → (w.cell? ⟨b, o + j, none⟩).isSome = true) (hf : ∀ j, j < z.cells.size → w.frozen? ⟨b, o + j, none⟩ = false) :
    (Builtin.clear_ #[t] ty #[.slice (some ⟨b, o, none⟩) 1 c]).run Tryz.prog w = .ok (.tuple #[]) (w.setCells b o z.cells.toList) := by
  have hzc : (Builtin.zeroCells z.cells 1).toList = z.cells.toList := by
    simp [Builtin.zeroCells]
    apply List.ext_getElem
    · simp
    · intro i h1 h2
      simp only [List.getElem_map, List.getElem_range] at *
      rw [Nat.mod_eq_of_lt (by simpa using h2), getElem!_pos _ _ (by simpa using h2)]
      simp
  have hst := run_storeCells_cells (P := Tryz.prog) b o z.cells.toList 0 w (by simpa using hc) (by simpa using hf) h1
  simp only [Nat.add_zero] at hst
  simp [Builtin.clear_, run_underlying ht, hv, hzc, hst]

theorem zero_A : ∀ w, (zeroValue 53).run Tryz.prog w = .ok (.agg #[.string ⟨#[]⟩, .int .i64 0, .slice none 0 0, .int .i64 0, .int .i64 0, .string ⟨#[]⟩]) w := fun w => by kernel_rfl
set_option maxRecDepth 1000000 in
set_option maxHeartbeats 4000000 in
theorem delA_any {α : Type} {f : α → List Value} (hf : ∀ x, (f x).length = 6) (ps : List α) (base g cap i j0 : Nat) (hj0 : j0 = i + 1) (hi : i < ps.length) (hl : ps.length ≤ 4000) (w : World) (h : w.ownsRow base 53 6 (.slice (some ⟨g, 0, none⟩) ps.length cap) ps.length (ps.flatMap f))
    (h1 : ∀ p ∈ ps, ∀ u ∈ f p, u.oneCell' = true) :
    Calls Tryz.prog 104 #[.slice (some ⟨g, 0, none⟩) ps.length cap, .int .i64 (i : Int), .int .i64 (j0 : Int)] w
      fun e w' => e = .returned (.slice (some ⟨g, 0, none⟩) (ps.length - 1) cap) ∧ w'.ownsRow base 53 6 (.slice (some ⟨g, 0, none⟩) (ps.length - 1) cap) (ps.length - 1) ((ps.eraseIdx i).flatMap f) ∧ w.grownBy w' (some g) := by
  obtain ⟨i0, hi0, hz0, hz1, hz2⟩ := info_parts elemAttr.hi
  obtain ⟨cur, hbase, hcur, hle, hcm, hcs, htk⟩ : ∃ cur, base ≤ g ∧ w.heap[g]? = some (.cells cur 53 (0, 0)) ∧ ps.length ≤ cap ∧ cap ≤ maxLen ∧ cur.size = cap * 6 ∧ cur.toList.take (ps.length * 6) = ps.flatMap f := by
    rcases h.2 with ⟨e, _⟩ | ⟨g', cap', cur, e, r⟩
    · cases e
    · cases e; exact ⟨cur, r⟩
  obtain ⟨n, hn⟩ : ∃ n, ps.length = n := ⟨_, rfl⟩
  have hcell : ∀ j, j < n * 6 → w.cell? ⟨g, j, none⟩ = (ps.flatMap f)[j]? := fun j hj => h.cellAt j (by rw [hn]; exact hj)
  have hall : ∀ j, j < n * 6 → (w.cell? ⟨g, j, none⟩).isSome = true := fun j hj => by
    rw [hcell j hj, List.getElem?_eq_getElem (by rw [flat_len hf, hn]; exact hj)]; rfl
  have hfz : ∀ j, w.frozen? ⟨g, j, none⟩ = false := fun j => h.frozenAt j
  obtain ⟨news, hnews⟩ : ∃ news, news = (ps.drop j0).flatMap f := ⟨_, rfl⟩
  have hlen : news.length = (n - j0) * 6 := by rw [hnews, flat_len hf, List.length_drop, hn]
  have hget : ∀ t, t < (n - j0) * 6 → news[t]? = (ps.flatMap f)[j0 * 6 + t]? := fun t ht => by
    rw [hnews]
    have e : ps.flatMap f = (ps.take j0).flatMap f ++ (ps.drop j0).flatMap f := by rw [← List.flatMap_append, List.take_append_drop]
    rw [e, List.getElem?_append_right (by rw [flat_len hf, List.length_take]; omega), flat_len hf, List.length_take]
    congr 1
    omega
  obtain ⟨A, hA, hsrc⟩ : ∃ A : Addr, (if cap = j0 then some (⟨g, 0, none⟩ : Addr) else some ⟨g, j0 * 6, none⟩) = some A ∧ Hid (∀ t u, news[t]? = some u → w.drew.cell? (A.add t) = some u) := by
    by_cases hc : cap = j0
    · refine ⟨⟨g, 0, none⟩, by simp [hc], Lib.hid (fun t u hu => ?_)⟩
      have h0 : news.length = 0 := by rw [hlen]; omega
      rw [List.length_eq_zero_iff.1 h0] at hu
      simp at hu
    · refine ⟨⟨g, j0 * 6, none⟩, by simp [hc], Lib.hid (fun t u hu => ?_)⟩
      have ht : t < (n - j0) * 6 := by
        have := (List.getElem?_eq_some_iff.1 hu).1
        rwa [hlen] at this
      rw [hget t ht] at hu
      rw [add_none]
      exact (hcell _ (by omega)).trans hu
  have s2 : Hid (∀ u ∈ news, u.oneCell' = true) := Lib.hid (fun u hu => by
    rw [hnews] at hu
    obtain ⟨x, hx, hu⟩ := List.mem_flatMap.1 hu
    exact h1 x (List.mem_of_mem_drop hx) u hu)
  have s3 : Hid (∀ t, t < news.length → (w.drew.cell? ⟨g, 0 + i * 6 + t, none⟩).isSome = true ∧ w.drew.frozen? ⟨g, 0 + i * 6 + t, none⟩ = false) := Lib.hid (fun t ht => by
    rw [hlen] at ht
    exact ⟨hall _ (by omega), hfz _⟩)
  obtain ⟨W1, hW1⟩ : ∃ W1, W1 = w.drew.setCells g (0 + i * 6) news := ⟨_, rfl⟩
  have k1 : ∀ j, j < n * 6 → (W1.cell? ⟨g, j, none⟩).isSome = true := fun j hj => by
    rw [hW1]
    by_cases q : 0 + i * 6 ≤ j ∧ j < 0 + i * 6 + news.length
    · have := World.cell?_setCells_in g news (0 + i * 6) w.drew (fun t ht => (s3.out t ht).1) (j - (0 + i * 6)) (by omega)
      rw [show 0 + i * 6 + (j - (0 + i * 6)) = j by omega] at this
      rw [this]; rfl
    · rw [World.cell?_setCells_out g news (0 + i * 6) w.drew ⟨g, j, none⟩ (fun _ _ => by show j < _ ∨ _ ≤ j; omega)]
      exact hall j hj
  have k2 : ∀ j, W1.frozen? ⟨g, j, none⟩ = false := fun j => by rw [hW1, World.frozen?_setCells]; exact hfz j
  have k3 : ∀ j, j < (n - 1) * 6 → W1.cell? ⟨g, j, none⟩ = ((ps.eraseIdx i).flatMap f)[j]? := fun j hj => by
    have e : (ps.eraseIdx i).flatMap f = (ps.take i).flatMap f ++ news := by rw [hnews, List.eraseIdx_eq_take_drop_succ, List.flatMap_append, hj0]
    have et : ((ps.take i).flatMap f).length = i * 6 := by rw [flat_len hf, List.length_take, Nat.min_eq_left (by omega)]
    rw [hW1, e]
    by_cases q : j < i * 6
    · rw [World.cell?_setCells_out g news (0 + i * 6) w.drew ⟨g, j, none⟩ (fun _ _ => by show j < _ ∨ _ ≤ j; omega), List.getElem?_append_left (by omega)]
      refine (hcell j (by omega)).trans ?_
      have e2 : ps.flatMap f = (ps.take i).flatMap f ++ (ps.drop i).flatMap f := by rw [← List.flatMap_append, List.take_append_drop]
      rw [e2, List.getElem?_append_left (by omega)]
    · have := World.cell?_setCells_in g news (0 + i * 6) w.drew (fun t ht => (s3.out t ht).1) (j - i * 6) (by omega)
      rw [show 0 + i * 6 + (j - i * 6) = j by omega] at this
      rw [this, List.getElem?_append_right (by omega), et, List.getElem?_eq_getElem]
  obtain ⟨cur1, hc1, hc2⟩ := own_setCells (base := base) news (0 + i * 6) w.drew cur hcur
  rw [← hW1] at hc1
  have hcl : ∀ ty, (Builtin.clear_ #[41] ty #[.slice (some ⟨g, (n - 1) * 6, none⟩) 1 (cap - (n - 1))]).run Tryz.prog W1 = .ok (.tuple #[]) (W1.setCells g ((n - 1) * 6) [.string ⟨#[]⟩, .int .i64 0, .slice none 0 0, .int .i64 0, .int .i64 0, .string ⟨#[]⟩]) := fun ty =>
    run_clear1 W1 41 53 ty (.agg #[.string ⟨#[]⟩, .int .i64 0, .slice none 0 0, .int .i64 0, .int .i64 0, .string ⟨#[]⟩]) elemAttr.ht zero_A (by show ∀ u ∈ ([.string ⟨#[]⟩, .int .i64 0, .slice none 0 0, .int .i64 0, .int .i64 0, .string ⟨#[]⟩] : List Value), u.oneCell' = true; decide) g ((n - 1) * 6) (cap - (n - 1)) (fun j hj => k1 _ (by have hj' : j < 6 := hj; omega)) (fun j _ => k2 _)
  obtain ⟨cur2, hd1, hd2⟩ := own_setCells (base := base) [.string ⟨#[]⟩, .int .i64 0, .slice none 0 0, .int .i64 0, .int .i64 0, .string ⟨#[]⟩] ((n - 1) * 6) W1 cur1 hc1
  have hcl2 : ∀ ty, (Builtin.clear_ #[41] ty #[.slice (some ⟨g, (i + (n - j0)) * 6, none⟩) (n - (i + (n - j0))) (cap - (i + (n - j0)))]).run Tryz.prog W1 = .ok (.tuple #[]) (W1.setCells g ((n - 1) * 6) [.string ⟨#[]⟩, .int .i64 0, .slice none 0 0, .int .i64 0, .int .i64 0, .string ⟨#[]⟩]) := fun ty => by
    rw [show i + (n - j0) = n - 1 by omega, show n - (n - 1) = 1 by omega]
    exact hcl ty
  clear hcl
  have HF : Hid ((W1.setCells g ((n - 1) * 6) [.string ⟨#[]⟩, .int .i64 0, .slice none 0 0, .int .i64 0, .int .i64 0, .string ⟨#[]⟩]).ownsRow base 53 6 (.slice (some ⟨g, 0, none⟩) (n - 1) cap) (n - 1) ((ps.eraseIdx i).flatMap f)) :=
    Lib.hid (own_of_cells hd1 (by rw [hd2, hc2, hcs]) hbase (by omega) hcm (by rw [flat_len hf, List.length_eraseIdx]; rw [if_pos hi, hn]) (fun j hj => by
      rw [World.cell?_setCells_out g _ _ W1 ⟨g, j, none⟩ (fun _ _ => Or.inl hj)]
      exact k3 j hj))
  have HG : Hid (w.grownBy (W1.setCells g ((n - 1) * 6) [.string ⟨#[]⟩, .int .i64 0, .slice none 0 0, .int .i64 0, .int .i64 0, .string ⟨#[]⟩]) (some g)) := Lib.hid (by
    have g1 : w.grownBy w.drew (some g) := ⟨rfl, rfl, rfl, Nat.le_refl _, fun _ _ _ => rfl⟩
    rw [hW1]
    exact (g1.trans (setCells_tch g _ _ _)).trans (setCells_tch g _ _ _))
  have HW := Lib.hid hW1
  have HLn := Lib.hid hlen
  have HNe : ((i : Int) == (j0 : Int)) = false := by simp; omega
  have hic : i ≤ cap := by omega
  have hcne : ¬ cap = i + (n - j0) := by omega
  have hjc : j0 ≤ cap := by omega
  have hij : i ≤ j0 := by omega
  have hjn : j0 ≤ n := by omega
  have hmx : cap ≤ 9223372036854775807 := by unfold maxLen at hcm; omega
  have hin : i < n := by omega
  have hnl : n ≤ 4000 := by omega
  rw [hn] at hle ⊢
  have e1 : i + (n - j0) = n - 1 := by omega
  have HE1 := Lib.hid e1
  clear h h1 hcell hall hfz hnews hlen hget k1 k2 k3 hc1 hc2 hd1 hd2 hW1 hcur hcs htk hcm hi hl hn e1 hj0
  go_enter Tryz.func104, Tryz.ntmps104
  go_wp2_with fail
  go_region_law (refine step_append_room rfl (.tmp 22) (.tmp 25) 41 rfl 53 i0 6 elemAttr.ht hi0 hz1 g 0 i cap (by simp [Act.eval, Act.put]) A (n - j0) (cap - j0) news (by simp [Act.eval, Act.put]) HLn.out hsrc.out s2.out (by omega) s3.out ?_; rw [← HW.out])
  go_wp2
  go_ret
  have e1 := HE1.out
  rw [e1]
  exact ⟨rfl, HF.out, HG.out⟩

theorem zero_V : ∀ w, (zeroValue 26).run Tryz.prog w = .ok (.agg #[.int .i64 0, .int .i64 0, .string ⟨#[]⟩]) w := fun w => by kernel_rfl
set_option maxRecDepth 1000000 in
set_option maxHeartbeats 4000000 in
theorem delV_any {α : Type} {f : α → List Value} (hf : ∀ x, (f x).length = 3) (ps : List α) (base g cap i j0 : Nat) (hj0 : j0 = i + 1) (hi : i < ps.length) (hl : ps.length ≤ 4000) (w : World) (h : w.ownsRow base 26 3 (.slice (some ⟨g, 0, none⟩) ps.length cap) ps.length (ps.flatMap f))
    (h1 : ∀ p ∈ ps, ∀ u ∈ f p, u.oneCell' = true) :
    Calls Tryz.prog 105 #[.slice (some ⟨g, 0, none⟩) ps.length cap, .int .i64 (i : Int), .int .i64 (j0 : Int)] w
      fun e w' => e = .returned (.slice (some ⟨g, 0, none⟩) (ps.length - 1) cap) ∧ w'.ownsRow base 26 3 (.slice (some ⟨g, 0, none⟩) (ps.length - 1) cap) (ps.length - 1) ((ps.eraseIdx i).flatMap f) ∧ w.grownBy w' (some g) := by
  obtain ⟨i0, hi0, hz0, hz1, hz2⟩ := info_parts elemVal.hi
  obtain ⟨cur, hbase, hcur, hle, hcm, hcs, htk⟩ : ∃ cur, base ≤ g ∧ w.heap[g]? = some (.cells cur 26 (0, 0)) ∧ ps.length ≤ cap ∧ cap ≤ maxLen ∧ cur.size = cap * 3 ∧ cur.toList.take (ps.length * 3) = ps.flatMap f := by
    rcases h.2 with ⟨e, _⟩ | ⟨g', cap', cur, e, r⟩
    · cases e
    · cases e; exact ⟨cur, r⟩
  obtain ⟨n, hn⟩ : ∃ n, ps.length = n := ⟨_, rfl⟩
  have hcell : ∀ j, j < n * 3 → w.cell? ⟨g, j, none⟩ = (ps.flatMap f)[j]? := fun j hj => h.cellAt j (by rw [hn]; exact hj)
  have hall : ∀ j, j < n * 3 → (w.cell? ⟨g, j, none⟩).isSome = true := fun j hj => by
    rw [hcell j hj, List.getElem?_eq_getElem (by rw [flat_len hf, hn]; exact hj)]; rfl
  have hfz : ∀ j, w.frozen? ⟨g, j, none⟩ = false := fun j => h.frozenAt j
  obtain ⟨news, hnews⟩ : ∃ news, news = (ps.drop j0).flatMap f := ⟨_, rfl⟩
  have hlen : news.length = (n - j0) * 3 := by rw [hnews, flat_len hf, List.length_drop, hn]
  have hget : ∀ t, t < (n - j0) * 3 → news[t]? = (ps.flatMap f)[j0 * 3 + t]? := fun t ht => by
    rw [hnews]
    have e : ps.flatMap f = (ps.take j0).flatMap f ++ (ps.drop j0).flatMap f := by rw [← List.flatMap_append, List.take_append_drop]
    rw [e, List.getElem?_append_right (by rw [flat_len hf, List.length_take]; omega), flat_len hf, List.length_take]
    congr 1
    omega
  obtain ⟨A, hA, hsrc⟩ : ∃ A : Addr, (if cap = j0 then some (⟨g, 0, none⟩ : Addr) else some ⟨g, j0 * 3, none⟩) = some A ∧ Hid (∀ t u, news[t]? = some u → w.drew.cell? (A.add t) = some u) := by
    by_cases hc : cap = j0
    · refine ⟨⟨g, 0, none⟩, by simp [hc], Lib.hid (fun t u hu => ?_)⟩
      have h0 : news.length = 0 := by rw [hlen]; omega
      rw [List.length_eq_zero_iff.1 h0] at hu
      simp at hu
    · refine ⟨⟨g, j0 * 3, none⟩, by simp [hc], Lib.hid (fun t u hu => ?_)⟩
      have ht : t < (n - j0) * 3 := by
        have := (List.getElem?_eq_some_iff.1 hu).1
        rwa [hlen] at this
      rw [hget t ht] at hu
      rw [add_none]
      exact (hcell _ (by omega)).trans hu
  have s2 : Hid (∀ u ∈ news, u.oneCell' = true) := Lib.hid (fun u hu => by
    rw [hnews] at hu
    obtain ⟨x, hx, hu⟩ := List.mem_flatMap.1 hu
    exact h1 x (List.mem_of_mem_drop hx) u hu)
  have s3 : Hid (∀ t, t < news.length → (w.drew.cell? ⟨g, 0 + i * 3 + t, none⟩).isSome = true ∧ w.drew.frozen? ⟨g, 0 + i * 3 + t, none⟩ = false) := Lib.hid (fun t ht => by
    rw [hlen] at ht
    exact ⟨hall _ (by omega), hfz _⟩)
  obtain ⟨W1, hW1⟩ : ∃ W1, W1 = w.drew.setCells g (0 + i * 3) news := ⟨_, rfl⟩
  have k1 : ∀ j, j < n * 3 → (W1.cell? ⟨g, j, none⟩).isSome = true := fun j hj => by
    rw [hW1]
    by_cases q : 0 + i * 3 ≤ j ∧ j < 0 + i * 3 + news.length
    · have := World.cell?_setCells_in g news (0 + i * 3) w.drew (fun t ht => (s3.out t ht).1) (j - (0 + i * 3)) (by omega)
      rw [show 0 + i * 3 + (j - (0 + i * 3)) = j by omega] at this
      rw [this]; rfl
    · rw [World.cell?_setCells_out g news (0 + i * 3) w.drew ⟨g, j, none⟩ (fun _ _ => by show j < _ ∨ _ ≤ j; omega)]
      exact hall j hj
  have k2 : ∀ j, W1.frozen? ⟨g, j, none⟩ = false := fun j => by rw [hW1, World.frozen?_setCells]; exact hfz j
  have k3 : ∀ j, j < (n - 1) * 3 → W1.cell? ⟨g, j, none⟩ = ((ps.eraseIdx i).flatMap f)[j]? := fun j hj => by
    have e : (ps.eraseIdx i).flatMap f = (ps.take i).flatMap f ++ news := by rw [hnews, List.eraseIdx_eq_take_drop_succ, List.flatMap_append, hj0]
    have et : ((ps.take i).flatMap f).length = i * 3 := by rw [flat_len hf, List.length_take, Nat.min_eq_left (by omega)]
    rw [hW1, e]
    by_cases q : j < i * 3
    · rw [World.cell?_setCells_out g news (0 + i * 3) w.drew ⟨g, j, none⟩ (fun _ _ => by show j < _ ∨ _ ≤ j; omega), List.getElem?_append_left (by omega)]
      refine (hcell j (by omega)).trans ?_
      have e2 : ps.flatMap f = (ps.take i).flatMap f ++ (ps.drop i).flatMap f := by rw [← List.flatMap_append, List.take_append_drop]
      rw [e2, List.getElem?_append_left (by omega)]
    · have := World.cell?_setCells_in g news (0 + i * 3) w.drew (fun t ht => (s3.out t ht).1) (j - i * 3) (by omega)
      rw [show 0 + i * 3 + (j - i * 3) = j by omega] at this
      rw [this, List.getElem?_append_right (by omega), et, List.getElem?_eq_getElem]
  obtain ⟨cur1, hc1, hc2⟩ := own_setCells (base := base) news (0 + i * 3) w.drew cur hcur
  rw [← hW1] at hc1
  have hcl : ∀ ty, (Builtin.clear_ #[29] ty #[.slice (some ⟨g, (n - 1) * 3, none⟩) 1 (cap - (n - 1))]).run Tryz.prog W1 = .ok (.tuple #[]) (W1.setCells g ((n - 1) * 3) [.int .i64 0, .int .i64 0, .string ⟨#[]⟩]) := fun ty =>
    run_clear1 W1 29 26 ty (.agg #[.int .i64 0, .int .i64 0, .string ⟨#[]⟩]) elemVal.ht zero_V (by show ∀ u ∈ ([.int .i64 0, .int .i64 0, .string ⟨#[]⟩] : List Value), u.oneCell' = true; decide) g ((n - 1) * 3) (cap - (n - 1)) (fun j hj => k1 _ (by have hj' : j < 3 := hj; omega)) (fun j _ => k2 _)
  obtain ⟨cur2, hd1, hd2⟩ := own_setCells (base := base) [.int .i64 0, .int .i64 0, .string ⟨#[]⟩] ((n - 1) * 3) W1 cur1 hc1
  have hcl2 : ∀ ty, (Builtin.clear_ #[29] ty #[.slice (some ⟨g, (i + (n - j0)) * 3, none⟩) (n - (i + (n - j0))) (cap - (i + (n - j0)))]).run Tryz.prog W1 = .ok (.tuple #[]) (W1.setCells g ((n - 1) * 3) [.int .i64 0, .int .i64 0, .string ⟨#[]⟩]) := fun ty => by
    rw [show i + (n - j0) = n - 1 by omega, show n - (n - 1) = 1 by omega]
    exact hcl ty
  clear hcl
  have HF : Hid ((W1.setCells g ((n - 1) * 3) [.int .i64 0, .int .i64 0, .string ⟨#[]⟩]).ownsRow base 26 3 (.slice (some ⟨g, 0, none⟩) (n - 1) cap) (n - 1) ((ps.eraseIdx i).flatMap f)) :=
    Lib.hid (own_of_cells hd1 (by rw [hd2, hc2, hcs]) hbase (by omega) hcm (by rw [flat_len hf, List.length_eraseIdx]; rw [if_pos hi, hn]) (fun j hj => by
      rw [World.cell?_setCells_out g _ _ W1 ⟨g, j, none⟩ (fun _ _ => Or.inl hj)]
      exact k3 j hj))
  have HG : Hid (w.grownBy (W1.setCells g ((n - 1) * 3) [.int .i64 0, .int .i64 0, .string ⟨#[]⟩]) (some g)) := Lib.hid (by
    have g1 : w.grownBy w.drew (some g) := ⟨rfl, rfl, rfl, Nat.le_refl _, fun _ _ _ => rfl⟩
    rw [hW1]
    exact (g1.trans (setCells_tch g _ _ _)).trans (setCells_tch g _ _ _))
  have HW := Lib.hid hW1
  have HLn := Lib.hid hlen
  have HNe : ((i : Int) == (j0 : Int)) = false := by simp; omega
  have hic : i ≤ cap := by omega
  have hcne : ¬ cap = i + (n - j0) := by omega
  have hjc : j0 ≤ cap := by omega
  have hij : i ≤ j0 := by omega
  have hjn : j0 ≤ n := by omega
  have hmx : cap ≤ 9223372036854775807 := by unfold maxLen at hcm; omega
  have hin : i < n := by omega
  have hnl : n ≤ 4000 := by omega
  rw [hn] at hle ⊢
  have e1 : i + (n - j0) = n - 1 := by omega
  have HE1 := Lib.hid e1
  clear h h1 hcell hall hfz hnews hlen hget k1 k2 k3 hc1 hc2 hd1 hd2 hW1 hcur hcs htk hcm hi hl hn e1 hj0
  go_enter Tryz.func105, Tryz.ntmps105
  go_wp2_with fail
  go_region_law (refine step_append_room rfl (.tmp 22) (.tmp 25) 29 rfl 26 i0 3 elemVal.ht hi0 hz1 g 0 i cap (by simp [Act.eval, Act.put]) A (n - j0) (cap - j0) news (by simp [Act.eval, Act.put]) HLn.out hsrc.out s2.out (by omega) s3.out ?_; rw [← HW.out])
  go_wp2
  go_ret
  have e1 := HE1.out
  rw [e1]
  exact ⟨rfl, HF.out, HG.out⟩
end Go.Proofs.YteokcgfbhaeklaaGreatDoor
