/- What the walks of the laws share. -/
import Derived.Test.YtcgkaecaddpenaaGreatDoorPsHead
import Derived.Test.YtcgkaecaddpenaaGreatDoorPLaw
namespace Go.Proofs.YtcgkaecaddpenaaGreatDoor
open Go.RowKit
open L7 (Tk lexT lx gap)
open L8
set_option linter.unusedSimpArgs false

theorem hlx (t : Txt) (R : List Tk × Int × Int) (hl : t.length ≤ 100000000) (h : lexT t = R) (w : World) : Calls Tryz.prog 8 #[str t] w (LexPost w R) := by rw [← h]; exact lex_any t hl w
theorem hps (t : Txt) (R : List It × Int × Int) (hl : t.length ≤ 100000000) (h : parseT t = R) (w : World) : Calls Tryz.prog 9 #[str t] w (ParsePost w R) := by rw [← h]; exact parse_any t hl w
theorem Toks.at {w : World} {v : Value} {l : List Tk} (h : Toks w v l) (hl : 0 < l.length) : ∃ b off cap, v = .slice (some ⟨b, off, none⟩) l.length cap ∧ l.length ≤ cap ∧ ∀ i (hi : i < l.length),
    w.cell? ⟨b, off + i * 4, none⟩ = some (.int .i64 l[i].kind) ∧ w.cell? ⟨b, off + i * 4 + 1, none⟩ = some (str l[i].text) ∧ w.cell? ⟨b, off + i * 4 + 2, none⟩ = some (.int .i64 l[i].n) ∧ w.cell? ⟨b, off + i * 4 + 3, none⟩ = some (.int .i64 l[i].at_) := by
  obtain ⟨A, cap, rfl, hc⟩ := Slc.form h
  obtain ⟨_, _, b, off, rfl, f⟩ := Slc.spot h hl
  exact ⟨b, off, cap, rfl, hc, fun i hi => ⟨f i hi 0 (by omega), f i hi 1 (by omega), f i hi 2 (by omega), f i hi 3 (by omega)⟩⟩
theorem tk_at {w : World} {b off n cap : Nat} {l : List Tk} (h : Toks w (.slice (some ⟨b, off, none⟩) n cap) l) (i : Nat) (hi : i < l.length) :
    w.cell? ⟨b, off + i * 4, none⟩ = some (.int .i64 l[i].kind) ∧ w.cell? ⟨b, off + i * 4 + 1, none⟩ = some (str l[i].text) ∧ w.cell? ⟨b, off + i * 4 + 2, none⟩ = some (.int .i64 l[i].n) ∧ w.cell? ⟨b, off + i * 4 + 3, none⟩ = some (.int .i64 l[i].at_) := by
  obtain ⟨b', off', cap', e, _, f⟩ := h.at (by omega)
  injection e with e1 e2 e3
  injection e1 with e1
  injection e1 with e4 e5
  subst e4 e5
  exact f i hi
theorem below2 {w w1 w2 : World} (h : Below w.heap.size w w1) (k : Below w1.heap.size w1 w2) : Below w.heap.size w w2 := h.trans (k.mono h.size)
theorem below2b {w w1 w2 : World} {o : Obj} (h : Below w.heap.size w w1) (k : Below (w1.alloc o).heap.size (w1.alloc o) w2) : Below w.heap.size w w2 := below2 h (below_from k)
theorem str_eq {c : Txt} {x : ByteArray} (hx : x.data.toList = c) : Value.string x = str c := by
  congr 1
  apply ByteArray.ext
  apply Array.toList_inj.1
  rw [hx]
theorem calls_str {P : Program} {f : FuncId} {x y : Value} {W : World} {K : Ending → World → Prop} (h : x = y) (c : Calls P f #[y] W K) : Calls P f #[x] W K := by rw [h]; exact c
end Go.Proofs.YtcgkaecaddpenaaGreatDoor
