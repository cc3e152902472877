/- SchemaRows in plain words, for every schema, change, table and row. -/
import Derived.Test.YteokcgfbhaeklaaGreatDoorRowsW
import Derived.Test.YteokcgfbhaeklaaGreatDoorRowsB
namespace Go.Proofs.YteokcgfbhaeklaaGreatDoor
open Go.RowKit

theorem conv_nil {s : List TabT} {c : ChgT} {n : Int} {row : List T3} (h : (convT s c n row).2 ≠ 0) : (convT s c n row).1 = [] := by
  unfold convT at h ⊢
  split
  · rfl
  · rename_i h1
    rw [if_neg h1] at h
    split
    · rfl
    · rename_i t ht
      rw [ht] at h
      simp only at h
      split
      · rfl
      · rename_i h2
        rw [if_neg h2] at h
        split
        · rename_i h3
          rw [if_pos h3] at h
          exact absurd rfl h
        · rename_i h3
          rw [if_neg h3] at h
          unfold rowT at h ⊢
          split
          · rename_i h4; rw [if_pos h4] at h; exact absurd rfl h
          · rename_i h4
            rw [if_neg h4] at h
            split
            · rename_i h5; rw [if_pos h5] at h; exact absurd rfl h
            · rename_i h5
              rw [if_neg h5] at h
              split
              · rename_i h6; rw [if_pos h6] at h; exact absurd rfl h
              · rename_i h6
                rw [if_neg h6] at h
                split
                · rfl
                · rename_i h7
                  rw [if_neg h7] at h
                  exact absurd rfl h
theorem rows_law (s : List TabT) (v : Value) (c : ChgT) (raw : UInt8) (row : List T3) (rv : Value) (w : World) (he : L2.Env w) (h : Tabs w v s) (hr : Vals w rv row) :
    Calls Tryz.prog 6 #[.agg #[v], Cv c, .int .u8 (raw.toNat : Int), rv] w (fun e w' => e = .returned (.bool true) ∧ Below w.heap.size w w') := by
  by_cases hsm : SmallC s c row
  · by_cases h0 : s.length = 0
    · exact rows_none s v c raw row rv w he h hr hsm h0
    · have hpos : 0 < s.length := by omega
      have hn := rem_tab raw.toNat s.length
      have hns : raw.toNat % s.length < s.length := Nat.mod_lt _ hpos
      obtain ⟨n, hn0⟩ : ∃ n, raw.toNat % s.length = n := ⟨_, rfl⟩
      rw [hn0] at hn hns
      clear hn0
      by_cases ha : (applyT s c).2 = 0
      · obtain ⟨k, t, u, hal⟩ := apply_alt ha
        by_cases hf : fitsB s[n].attrs row = true
        · by_cases hc : (convT s c n row).2 = 0
          · have hm1 : Mid (s.set k u) := (hal.siz hsm.siz).mid (by omega)
            have hlen : (convT s c n row).1.length ≤ row.length + 1 := conv_len (pair_of rfl rfl)
            have hrl := hsm.2.2.2
            have hcv : convT s c n row = ((convT s c n row).1, 0) := pair_of rfl hc
            have hce := conv_at hal.loc hns row
            rw [if_neg (by simp [hf])] at hce
            by_cases hnk : n = k
            · subst hnk
              have hst : s[n]'hns = t := hal.loc.get
              subst hst
              rw [if_neg (by omega)] at hce
              have hok := rowT_ok hal hf (by rw [← hce]; exact hc)
              rw [← hce] at hok
              refine rows_chg s v c raw row rv w he h hr hsm hpos n hn hns _ _ hal.app hm1 (by simp) hcv hf (fun h1 => ?_) (by omega) _ rfl hal.loc.name (fun i hi hm => ?_)
              · rw [List.getElem_set_self]
                exact hok.1
              · obtain ⟨j, e, hj, ho⟩ := hok.2 i hi hm
                exact ⟨j, e, hj, ho⟩
            · rw [if_pos hnk] at hce
              have hx : (convT s c n row).1 = row := by rw [hce]
              have hname : ¬ s[n].name = c.table := fun e => hnk ((hal.loc.name_iff hns).1 e)
              refine rows_same s v c raw row rv w he h hr hsm hpos n hn hns _ row hal.app hm1 (by simp) hce hf (fun h1 => ?_) (by omega) _ rfl hname (fun i hi hm => ⟨i, rfl, hi, .inl rfl⟩)
              rw [List.getElem_set_ne (by omega)]
              exact hf
          · obtain ⟨h15, hk4, hnk, p, hp, hpl, hcast⟩ := rows_cast hal hns hf hc
            subst hnk
            have hst : s[n]'hns = t := hal.loc.get
            subst hst
            refine rows_bad s v c raw row rv w he h hr hsm hpos n hn hns _ p hal.app (pair_of (conv_nil hc) h15) hf hk4 hal.loc.name hp hpl ?_
            rw [List.getD_eq_getElem?_getD, List.getElem?_eq_getElem hpl] at hcast
            exact hcast
        · have hf' : fitsB s[n].attrs row = false := by simpa using hf
          obtain ⟨h1, h2, _⟩ := rows_no hns (.inr hf') (c := c)
          exact rows_unfit s v c raw row rv w he h hr hsm hpos n hn hns _ _ hal.app (pair_of h2 rfl) h1 hf'
      · obtain ⟨_, h2, h3⟩ := rows_no hns (row := row) (.inl ha)
        exact rows_err s v c raw row rv w he h hr hsm hpos n hn hns _ (pair_of (apply_no ha) rfl) (pair_of h2 (h3.resolve_left ha).symm) ha
  · exact rows_big s v c raw row rv w he h hr hsm
end Go.Proofs.YteokcgfbhaeklaaGreatDoor
