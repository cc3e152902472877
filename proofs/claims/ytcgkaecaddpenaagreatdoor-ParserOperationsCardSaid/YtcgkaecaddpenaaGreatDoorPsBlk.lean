/- Blocks that are known whole; what the parser does not touch. -/
import Derived.Test.YtcgkaecaddpenaaGreatDoorPsPgC
namespace Go.Proofs.YtcgkaecaddpenaaGreatDoor
open Go.RowKit
open L7 (Tk)
open L8

def Blk (w : World) (b : Nat) (t : TypeId) (cs : Array Value) : Prop := w.heap[b]? = some (.cells cs t (0, 0))
theorem Blk.lt {w : World} {b : Nat} {t : TypeId} {cs : Array Value} (h : Blk w b t cs) : b < w.heap.size := (Array.getElem?_eq_some_iff.1 h).1
theorem Blk.new (w : World) (t : TypeId) (cs : Array Value) : Blk (w.alloc (.cells cs t)) w.heap.size t cs := heap_alloc_new w _
theorem Blk.near {w w' : World} {g b : Nat} {t : TypeId} {cs : Array Value} (h : Blk w b t cs) (hn : Near g w w') (hne : b ≠ g) : Blk w' b t cs := (hn.block b h.lt hne).trans h
theorem Blk.keep {w w' : World} {b : Nat} {t : TypeId} {cs : Array Value} (h : Blk w b t cs) (hb : Below w.heap.size w w') : Blk w' b t cs := (hb.block b h.lt).trans h
theorem Blk.alloc {w : World} {b : Nat} {t : TypeId} {cs : Array Value} (h : Blk w b t cs) (o : Obj) : Blk (w.alloc o) b t cs := h.keep (below_box w o)
theorem Blk.set_ {w : World} {b : Nat} {t : TypeId} {cs : Array Value} (h : Blk w b t cs) (i : Nat) (u : Value) : Blk (w.setCell ⟨b, i, none⟩ u) b t (cs.setIfInBounds i u) := heap_setCell_same w b i cs t u h
theorem Blk.far {w : World} {b : Nat} {t : TypeId} {cs : Array Value} (h : Blk w b t cs) {p : Addr} (hp : b ≠ p.block) (u : Value) : Blk (w.setCell p u) b t cs := (heap_setCell_other w p b u hp).trans h
theorem Blk.row {w : World} {b : Nat} {t : TypeId} {cs : Array Value} (h : Blk w b t cs) (cs' : Array Value) : Blk (w.setRow b cs') b t cs' := setRow_heap w b cs cs' t _ h
theorem Blk.farRow {w : World} {b c : Nat} {t : TypeId} {cs : Array Value} (h : Blk w b t cs) (hne : b ≠ c) (cs' : Array Value) : Blk (w.setRow c cs') b t cs := (setRow_other w c b cs' hne).trans h
theorem Blk.cell {w : World} {b : Nat} {t : TypeId} {cs : Array Value} (h : Blk w b t cs) (i : Nat) : w.cell? ⟨b, i, none⟩ = cs[i]? := cell_of_row w b i cs t (0, 0) h
theorem Blk.frozen {w : World} {b : Nat} {t : TypeId} {cs : Array Value} (h : Blk w b t cs) (i : Nat) : w.frozen? ⟨b, i, none⟩ = false := frozen_of_row w b i cs t h
theorem Tch.row {S : Nat → Prop} {a b : World} (h : Tch S a b) {c : Nat} (hc : a.heap.size ≤ c) (cs : Array Value) : Tch S a (b.setRow c cs) :=
  ⟨h.os, h.tape, h.output, by simpa using h.size, fun i hi hs => (setRow_other b c i cs (by omega)).trans (h.block i hi hs)⟩
theorem Tch.set2 {S : Nat → Prop} {a b : World} (h : Tch S a b) {p : Addr} (hp : a.heap.size ≤ p.block) (v : Value) : Tch S a (b.setCell p v) :=
  ⟨h.os, h.tape, h.output, by simpa using h.size, fun i hi hs => (heap_setCell_other b p i v (by omega)).trans (h.block i hi hs)⟩
theorem Sta.lt2 {w : World} {p : Ps} {r : List Tk} {lv : Int} (h : Sta w p r lv) : p.b < w.heap.size := by
  obtain ⟨off, cap, h⟩ := h
  exact cellLt h.head.1
/-- The parser's memory stands where its two blocks do. -/
theorem Sta.stay {w w' : World} {p : Ps} {r : List Tk} {lv : Int} (h : Sta w p r lv) (h1 : w'.heap[p.g]? = w.heap[p.g]?) (h2 : w'.heap[p.b]? = w.heap[p.b]?) : Sta w' p r lv := by
  obtain ⟨off, cap, h⟩ := h
  have hc : ∀ o, w'.cell? ⟨p.g, o, none⟩ = w.cell? ⟨p.g, o, none⟩ := fun o => World.cell?_of_block (a := ⟨p.g, o, none⟩) h1
  have hf : ∀ o, w'.frozen? ⟨p.g, o, none⟩ = w.frozen? ⟨p.g, o, none⟩ := fun o => World.frozen?_of_block (a := ⟨p.g, o, none⟩) h1
  exact ⟨off, cap, (hc _).trans h.c0, (hc _).trans h.c1, (hf _).trans h.f0, (hf _).trans h.f1, h.hc, h.ne, h.few, h.good, fun i t hi k hk => (World.cell?_of_block (a := ⟨p.b, off + i * 4 + k, none⟩) h2).trans (h.toks i t hi k hk)⟩
theorem Sta.row {w : World} {p : Ps} {r : List Tk} {lv : Int} (h : Sta w p r lv) {c : Nat} (h1 : p.g < c) (h2 : p.b < c) (cs : Array Value) : Sta (w.setRow c cs) p r lv :=
  h.stay (setRow_other w c p.g cs (by omega)) (setRow_other w c p.b cs (by omega))
theorem Sta.cell {w : World} {p : Ps} {r : List Tk} {lv : Int} (h : Sta w p r lv) {a : Addr} (h1 : p.g < a.block) (h2 : p.b < a.block) (v : Value) : Sta (w.setCell a v) p r lv :=
  h.stay (heap_setCell_other w a p.g v (by omega)) (heap_setCell_other w a p.b v (by omega))
end Go.Proofs.YtcgkaecaddpenaaGreatDoor
