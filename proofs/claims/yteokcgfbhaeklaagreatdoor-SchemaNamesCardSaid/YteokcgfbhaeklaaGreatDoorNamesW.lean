/- SchemaNames in plain words, for every schema and change. -/
import Derived.Test.YteokcgfbhaeklaaGreatDoorNamesS
import Derived.Test.YteokcgfbhaeklaaGreatDoorNamesA
import Derived.Test.YteokcgfbhaeklaaGreatDoorNamesB
import Derived.Test.YteokcgfbhaeklaaGreatDoorNamesD
namespace Go.Proofs.YteokcgfbhaeklaaGreatDoor
open Go.RowKit

theorem names_law (s : List TabT) (v : Value) (c : ChgT) (w : World) (he : L2.Env w) (h : Tabs w v s) :
    Calls Tryz.prog 5 #[.agg #[v], Cv c] w (fun e w' => e = .returned (.bool true) ∧ Below w.heap.size w w') := by
  by_cases hsm : SmallC s c []
  · by_cases ha : (applyT s c).2 = 0
    · obtain ⟨k, t, u, hal⟩ := apply_alt ha
      have hmt := hsm.siz.2 t hal.loc.mem
      have hmu := (hal.siz hsm.siz).2 u (List.mem_of_getElem? hal.at)
      have hmu2 : u.attrs.length ≤ 24 ∧ u.key.length ≤ 24 ∧ ∀ a ∈ u.attrs, a.was.length ≤ 24 := ⟨by omega, by omega, fun a h => by have := hmu.2.2 a h; omega⟩
      have h1 : ∀ h0 : k < s.length, s[k] = t := fun _ => hal.loc.get
      have h2 : ∀ h1 : k < (s.set k u).length, (s.set k u)[k] = u := fun _ => List.getElem_set_self ..
      by_cases k1 : c.kind = 1
      · exact nam_1 s v c w he h hsm (s.set k u) k t u hal.app hal.loc.lt hal.loc.find h1 h2 (by simp) hmt hmu2 (fun i hi hm nm hn => names_math hal hi hm hn) (names_key hal) (fun x hx => hal.t_ok.key.2.1 x hx) k1 (names_add hal k1)
      · by_cases k3 : c.kind = 3
        · exact nam_3 s v c w he h hsm (s.set k u) k t u hal.app hal.loc.lt hal.loc.find h1 h2 (by simp) hmt hmu2 (fun i hi hm nm hn => names_math hal hi hm hn) (names_key hal) (fun x hx => hal.t_ok.key.2.1 x hx) k3 (names_ren hal k3)
        · exact nam_0 s v c w he h hsm (s.set k u) k t u hal.app hal.loc.lt hal.loc.find h1 h2 (by simp) hmt hmu2 (fun i hi hm nm hn => names_math hal hi hm hn) (names_key hal) (fun x hx => hal.t_ok.key.2.1 x hx) ⟨k1, k3⟩
    · exact nam_err s v c w he h hsm _ (pair_of (apply_no ha) rfl) ha
  · exact nam_big s v c w he h hsm
end Go.Proofs.YteokcgfbhaeklaaGreatDoor
