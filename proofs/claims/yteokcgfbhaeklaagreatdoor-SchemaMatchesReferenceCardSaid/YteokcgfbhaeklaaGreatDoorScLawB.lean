/- What the laws have in common: small and the schema's functions, as they are met there. -/
import Derived.Test.YteokcgfbhaeklaaGreatDoorScHead
import Derived.Test.YteokcgfbhaeklaaGreatDoorPHelp
import Derived.Test.YteokcgfbhaeklaaGreatDoorPEq
import Derived.Test.YteokcgfbhaeklaaGreatDoorPMath
import Derived.Test.YteokcgfbhaeklaaGreatDoorPFit
namespace Go.Proofs.YteokcgfbhaeklaaGreatDoor
open Go.RowKit

theorem SmallC.mid {s : List TabT} {c : ChgT} {row : List T3} (h : SmallC s c row) : Mid s := h.1.mid
theorem SmallC.siz {s : List TabT} {c : ChgT} {row : List T3} (h : SmallC s c row) : Siz 10 s := ⟨h.1.1, fun x hx => ⟨(h.1.2 x hx).1.1, (h.1.2 x hx).1.2.1, fun a ha => ((h.1.2 x hx).2 a ha).1⟩⟩
theorem smallC_is (s : List TabT) (v rv : Value) (c : ChgT) (row : List T3) (hs : SmallC s c row) (w : World) (h : Tabs w v s) (hr : ∃ A cp, rv = .slice A row.length cp) :
    Calls Tryz.prog 10 #[.agg #[v], Cv c, rv] w (fun e w' => e = .returned (.bool true) ∧ Below w.heap.size w w') :=
  (smallC_any s v rv c row w h hr).mono fun e w' => by
    rintro ⟨⟨r, rfl, h1⟩, hb⟩
    exact ⟨bool_ret (h1.2 hs), hb⟩
theorem smallC_not (s : List TabT) (v rv : Value) (c : ChgT) (row : List T3) (hs : ¬ SmallC s c row) (w : World) (h : Tabs w v s) (hr : ∃ A cp, rv = .slice A row.length cp) :
    Calls Tryz.prog 10 #[.agg #[v], Cv c, rv] w (fun e w' => e = .returned (.bool false) ∧ Below w.heap.size w w') :=
  (smallC_any s v rv c row w h hr).mono fun e w' => by
    rintro ⟨⟨r, rfl, h1⟩, hb⟩
    refine ⟨bool_ret ?_, hb⟩
    cases r
    · rfl
    · exact absurd (h1.1 rfl) hs
/-- Apply, what it answers being known. -/
theorem apply_is (s : List TabT) (v : Value) (c : ChgT) (r : List TabT × Int) (hr : applyT s c = r) (hm : Mid s) (w : World) (h : Tabs w v s) :
    Calls Tryz.prog 11 #[.agg #[v], Cv c] w (ApplyPost w r) := hr ▸ apply_any s v c hm w h
/-- Convert, what it answers being known. -/
theorem convert_is (s : List TabT) (v rv : Value) (c : ChgT) (n : Int) (row : List T3) (r : List T3 × Int) (hr : convT s c n row = r) (hm : Mid s) (hrl : row.length ≤ 4000) (w : World) (he : L2.Env w) (h : Tabs w v s) (hv : Vals w rv row) :
    Calls Tryz.prog 13 #[.agg #[v], Cv c, .int .i64 n, rv] w (RowPost w.heap.size w r) := hr ▸ convert_any s v rv c n row hm hrl w he h hv
theorem same_is (a b : List TabT) (u v : Value) (r : Bool) (hr : decide (a = b) = r) (hm : Mid a) (w : World) (h1 : Tabs w u a) (h2 : Tabs w v b) :
    Calls Tryz.prog 15 #[.agg #[u], .agg #[v]] w (BoolPost w r) := hr ▸ same_ref a b u v hm w h1 h2
theorem pair_of {α : Type} {p : α × Int} {a : α} {e : Int} (h1 : p.1 = a) (h2 : p.2 = e) : p = (a, e) := Prod.ext h1 h2
theorem sliceForm {α : Type} {sz : Nat} {R : World → Nat → Nat → α → Prop} {w : World} {v : Value} {l : List α} (n : Nat) (h : Slc sz R w v l) (hl : l.length = n) : ∃ A cap, v = .slice A n cap := by
  obtain ⟨A, cap, e, _⟩ := h.form
  exact ⟨A, cap, by rw [e, hl]⟩
theorem conv_len {s : List TabT} {c : ChgT} {n : Int} {row x : List T3} {e : Int} (h : convT s c n row = (x, e)) : x.length ≤ row.length + 1 := by
  unfold convT at h
  split at h
  · cases h; simp
  · split at h
    · cases h; simp
    · split at h
      · cases h; simp
      · split at h
        · cases h; omega
        · unfold rowT at h
          split at h
          · cases h; simp
          · split at h
            · cases h
              have := List.length_eraseIdx_le row (locT s c).2.2.toNat
              omega
            · split at h
              · cases h; omega
              · split at h
                · cases h; simp
                · cases h; simp
/-- The index that is drawn. -/
theorem rem_tab (n m : Nat) : Int.tmod (n : Int) (m : Int) = ((n % m : Nat) : Int) := by
  rw [Int.tmod_eq_emod_of_nonneg (by omega)]
  rfl
theorem rows_is (a b : List T3) (u v : Value) (r : Bool) (hr : decide (a = b) = r) (ha : a.length ≤ 4000) (w : World) (h1 : Vals w u a) (h2 : Vals w v b) :
    Calls Tryz.prog 16 #[u, v] w (BoolPost w r) :=
  (rows_ref a b u v ha w h1 h2).mono fun e w' => by
    rintro ⟨rfl, n, rfl⟩
    exact ⟨bool_ret hr, below_drewN _ _ _⟩
theorem valid_is (s : List TabT) (v : Value) (r : Bool) (hr : validB s = r) (hm : Mid s) (w : World) (h : Tabs w v s) :
    Calls Tryz.prog 17 #[.agg #[v]] w (BoolPost w r) := hr ▸ valid_any s v hm w h
theorem find_is (s : List TabT) (v : Value) (n : Txt) (r : Int) (hr : findT s n = r) (hm : Mid s) (w : World) (h : Tabs w v s) :
    Calls Tryz.prog 19 #[.agg #[v], str n] w (IntPost w r) := hr ▸ find_any s v n (by have := hm.1; omega) w h
theorem sameTable_is (x y : TabT) (va vk ua uk : Value) (r : Bool) (hr : decide (x = y) = r) (hm : x.attrs.length ≤ 24 ∧ x.key.length ≤ 24 ∧ ∀ a ∈ x.attrs, a.was.length ≤ 24) (w : World) (xa : Attrs w va x.attrs) (xk : Ints w vk x.key) (ya : Attrs w ua y.attrs) (yk : Ints w uk y.key) :
    Calls Tryz.prog 25 #[.agg #[str x.name, va, vk], .agg #[str y.name, ua, uk]] w (BoolPost w r) :=
  hr ▸ sameTable_ref x y va vk ua uk (by omega) (by omega) (fun a ha => by have := hm.2.2 a ha; omega) w xa xk ya yk
theorem column_is (n : Txt) (l : List AttrT) (va vk : Value) (nm : Txt) (r : Int) (hr : colT l nm = r) (hl : l.length ≤ 24) (hws : ∀ a ∈ l, a.was.length ≤ 24) (w : World) (h : Attrs w va l) :
    Calls Tryz.prog 23 #[.agg #[str n, va, vk], str nm] w (IntPost w r) := hr ▸ column_any n l va vk nm (by omega) (fun a ha => by have := hws a ha; omega) w h
theorem fits_is (n : Txt) (l : List AttrT) (row : List T3) (va vk rv : Value) (r : Bool) (hr : fitsB l row = r) (hl : l.length ≤ 24) (hrl : row.length ≤ 4000) (w : World) (ha : Attrs w va l) (hv : Vals w rv row) :
    Calls Tryz.prog 21 #[.agg #[str n, va, vk], rv] w (BoolPost w r) := hr ▸ fits2_any n l row va vk rv (by omega) hrl w ha hv
theorem moved_is (n : Txt) (l : List AttrT) (va vk : Value) (c : ChgT) (i r : Int) (hr : movT l c i = r) (hl : l.length ≤ 24) (hws : ∀ a ∈ l, a.was.length ≤ 24) (hi : -4000 ≤ i ∧ i ≤ 4000) (w : World) (h : Attrs w va l) :
    Calls Tryz.prog 26 #[.agg #[str n, va, vk], Cv c, .int .i64 i] w (IntPost w r) := hr ▸ moved_any n l va vk c i (by omega) (fun a ha => by have := hws a ha; omega) hi w h
/-- The table at an index, in memory: the slice's block, and what lies there. -/
theorem tab_at {w : World} {A : Option Addr} {n cp : Nat} {s : List TabT} (h : Tabs w (.slice A n cp) s) {k : Nat} (hk : k < s.length) :
    ∃ b o, A = some ⟨b, o, none⟩ ∧ TabR w b (o + k * 3) s[k] := by
  obtain ⟨_, _, b, o, e, f⟩ := Slc.spot h (by omega)
  exact ⟨b, o, e, f k hk⟩
end Go.Proofs.YteokcgfbhaeklaaGreatDoor
