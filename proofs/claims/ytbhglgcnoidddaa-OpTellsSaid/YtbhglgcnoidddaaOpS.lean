/-
  An operation in a box, written field by field; the closures that take what stands behind an operation's span.
-/
import Derived.Test.YtbhglgcnoidddaaOpR
import Derived.Test.YtbhglgcnoidddaaOpM0
import Derived.Test.YtbhglgcnoidddaaOpE
namespace Go.Proofs.Ytbhglgcnoidddaa
open Go.RowKit
set_option linter.unusedVariables false
set_option linter.unusedSimpArgs false

theorem cell_out {W : World} {b off j : Nat} {vs : List Value} {v : Value} (hc : W.cell? ⟨b, j, none⟩ = some v) (hap : j < off ∨ off + vs.length ≤ j) : (W.setCells b off vs).cell? ⟨b, j, none⟩ = some v := by
  rw [World.cell?_setCells_out b vs off W ⟨b, j, none⟩ (fun _ _ => hap)]; exact hc
theorem set_kd {W : World} {b : Nat} {o : Opd} {A : Option Addr} {n c : Nat} (h : BoxO W b o A n c) (ht : ThereO W b) (x0 : Int) : BoxO (W.setCells b 0 [.int .u8 x0]) b { o with kd := x0 } A n c := by
  have hs := World.rangeAt_setCells_same W b 0 [.int .u8 x0] (fun j hj => by have := ht (0 + j) (by simp at hj; omega); simpa using this)
  exact ⟨hs 0 _ rfl, cell_out h.c1 (by simp), cell_out h.c2 (by simp), cell_out h.c3 (by simp), cell_out h.c4 (by simp), cell_out h.c5 (by simp), cell_out h.c6 (by simp), cell_out h.c7 (by simp), cell_out h.c8 (by simp), cell_out h.c9 (by simp), cell_out h.c10 (by simp), cell_out h.c11 (by simp), cell_out h.c12 (by simp), cell_out h.c13 (by simp), cell_out h.c14 (by simp), cell_out h.c15 (by simp), cell_out h.c16 (by simp)⟩
theorem set_by {W : World} {b : Nat} {o : Opd} {A : Option Addr} {n c : Nat} (h : BoxO W b o A n c) (ht : ThereO W b) (x0 x1 x2 : Int) : BoxO (W.setCells b 1 [.int .u8 x0, .int .u32 x1, .int .u8 x2]) b { o with l := x0, c := x1, k := x2 } A n c := by
  have hs := World.rangeAt_setCells_same W b 1 [.int .u8 x0, .int .u32 x1, .int .u8 x2] (fun j hj => by have := ht (1 + j) (by simp at hj; omega); simpa using this)
  exact ⟨cell_out h.c0 (by simp), hs 0 _ rfl, hs 1 _ rfl, hs 2 _ rfl, cell_out h.c4 (by simp), cell_out h.c5 (by simp), cell_out h.c6 (by simp), cell_out h.c7 (by simp), cell_out h.c8 (by simp), cell_out h.c9 (by simp), cell_out h.c10 (by simp), cell_out h.c11 (by simp), cell_out h.c12 (by simp), cell_out h.c13 (by simp), cell_out h.c14 (by simp), cell_out h.c15 (by simp), cell_out h.c16 (by simp)⟩
theorem set_s {W : World} {b : Nat} {o : Opd} {A : Option Addr} {n c : Nat} (h : BoxO W b o A n c) (ht : ThereO W b) (x0 : Int) : BoxO (W.setCells b 4 [.int .i64 x0]) b { o with s := x0 } A n c := by
  have hs := World.rangeAt_setCells_same W b 4 [.int .i64 x0] (fun j hj => by have := ht (4 + j) (by simp at hj; omega); simpa using this)
  exact ⟨cell_out h.c0 (by simp), cell_out h.c1 (by simp), cell_out h.c2 (by simp), cell_out h.c3 (by simp), hs 0 _ rfl, cell_out h.c5 (by simp), cell_out h.c6 (by simp), cell_out h.c7 (by simp), cell_out h.c8 (by simp), cell_out h.c9 (by simp), cell_out h.c10 (by simp), cell_out h.c11 (by simp), cell_out h.c12 (by simp), cell_out h.c13 (by simp), cell_out h.c14 (by simp), cell_out h.c15 (by simp), cell_out h.c16 (by simp)⟩
theorem set_from {W : World} {b : Nat} {o : Opd} {A : Option Addr} {n c : Nat} (h : BoxO W b o A n c) (ht : ThereO W b) (x0 x1 x2 x3 : Int) : BoxO (W.setCells b 5 [.int .u8 x0, .int .u32 x1, .int .u8 x2, .int .i64 x3]) b { o with fl := x0, fc := x1, fk := x2, fn := x3 } A n c := by
  have hs := World.rangeAt_setCells_same W b 5 [.int .u8 x0, .int .u32 x1, .int .u8 x2, .int .i64 x3] (fun j hj => by have := ht (5 + j) (by simp at hj; omega); simpa using this)
  exact ⟨cell_out h.c0 (by simp), cell_out h.c1 (by simp), cell_out h.c2 (by simp), cell_out h.c3 (by simp), cell_out h.c4 (by simp), hs 0 _ rfl, hs 1 _ rfl, hs 2 _ rfl, hs 3 _ rfl, cell_out h.c9 (by simp), cell_out h.c10 (by simp), cell_out h.c11 (by simp), cell_out h.c12 (by simp), cell_out h.c13 (by simp), cell_out h.c14 (by simp), cell_out h.c15 (by simp), cell_out h.c16 (by simp)⟩
theorem set_fm {W : World} {b : Nat} {o : Opd} {A : Option Addr} {n c : Nat} (h : BoxO W b o A n c) (ht : ThereO W b) (x0 : Int) : BoxO (W.setCells b 9 [.int .i64 x0]) b { o with fm := x0 } A n c := by
  have hs := World.rangeAt_setCells_same W b 9 [.int .i64 x0] (fun j hj => by have := ht (9 + j) (by simp at hj; omega); simpa using this)
  exact ⟨cell_out h.c0 (by simp), cell_out h.c1 (by simp), cell_out h.c2 (by simp), cell_out h.c3 (by simp), cell_out h.c4 (by simp), cell_out h.c5 (by simp), cell_out h.c6 (by simp), cell_out h.c7 (by simp), cell_out h.c8 (by simp), hs 0 _ rfl, cell_out h.c10 (by simp), cell_out h.c11 (by simp), cell_out h.c12 (by simp), cell_out h.c13 (by simp), cell_out h.c14 (by simp), cell_out h.c15 (by simp), cell_out h.c16 (by simp)⟩
theorem set_aft {W : World} {b : Nat} {o : Opd} {A : Option Addr} {n c : Nat} (h : BoxO W b o A n c) (ht : ThereO W b) (x0 x1 x2 x3 : Int) : BoxO (W.setCells b 10 [.int .u8 x0, .int .u32 x1, .int .u8 x2, .int .i64 x3]) b { o with al := x0, ac := x1, ak := x2, an := x3 } A n c := by
  have hs := World.rangeAt_setCells_same W b 10 [.int .u8 x0, .int .u32 x1, .int .u8 x2, .int .i64 x3] (fun j hj => by have := ht (10 + j) (by simp at hj; omega); simpa using this)
  exact ⟨cell_out h.c0 (by simp), cell_out h.c1 (by simp), cell_out h.c2 (by simp), cell_out h.c3 (by simp), cell_out h.c4 (by simp), cell_out h.c5 (by simp), cell_out h.c6 (by simp), cell_out h.c7 (by simp), cell_out h.c8 (by simp), cell_out h.c9 (by simp), hs 0 _ rfl, hs 1 _ rfl, hs 2 _ rfl, hs 3 _ rfl, cell_out h.c14 (by simp), cell_out h.c15 (by simp), cell_out h.c16 (by simp)⟩
theorem set_to {W : World} {b : Nat} {o : Opd} {A : Option Addr} {n c : Nat} (h : BoxO W b o A n c) (ht : ThereO W b) (x0 x1 : Int) : BoxO (W.setCells b 14 [.int .u8 x0, .int .u32 x1]) b { o with tl := x0, tc := x1 } A n c := by
  have hs := World.rangeAt_setCells_same W b 14 [.int .u8 x0, .int .u32 x1] (fun j hj => by have := ht (14 + j) (by simp at hj; omega); simpa using this)
  exact ⟨cell_out h.c0 (by simp), cell_out h.c1 (by simp), cell_out h.c2 (by simp), cell_out h.c3 (by simp), cell_out h.c4 (by simp), cell_out h.c5 (by simp), cell_out h.c6 (by simp), cell_out h.c7 (by simp), cell_out h.c8 (by simp), cell_out h.c9 (by simp), cell_out h.c10 (by simp), cell_out h.c11 (by simp), cell_out h.c12 (by simp), cell_out h.c13 (by simp), hs 0 _ rfl, hs 1 _ rfl, cell_out h.c16 (by simp)⟩
theorem set_row {W : World} {b : Nat} {o : Opd} {A : Option Addr} {n c : Nat} (h : BoxO W b o A n c) (ht : ThereO W b) (A' : Option Addr) (n' c' : Nat) (r : List Int) : BoxO (W.setCells b 16 [.slice A' n' c']) b { o with row := r } A' n' c' := by
  have hs := World.rangeAt_setCells_same W b 16 [.slice A' n' c'] (fun j hj => by have := ht (16 + j) (by simp at hj; omega); simpa using this)
  exact ⟨cell_out h.c0 (by simp), cell_out h.c1 (by simp), cell_out h.c2 (by simp), cell_out h.c3 (by simp), cell_out h.c4 (by simp), cell_out h.c5 (by simp), cell_out h.c6 (by simp), cell_out h.c7 (by simp), cell_out h.c8 (by simp), cell_out h.c9 (by simp), cell_out h.c10 (by simp), cell_out h.c11 (by simp), cell_out h.c12 (by simp), cell_out h.c13 (by simp), cell_out h.c14 (by simp), cell_out h.c15 (by simp), hs 0 _ rfl⟩
theorem ThereO.sets {W : World} {b : Nat} (h : ThereO W b) (off : Nat) (vs : List Value) : ThereO (W.setCells b off vs) b := World.there_setCells h b off vs
theorem ThereO.turn {g : Nat} {w w' : World} {b : Nat} (h : ThereO w b) (hT : Turn g w w') (hb : b ≠ g) : ThereO w' b := there_turn h hT hb
theorem BoxO.turn {g : Nat} {w w' : World} {b : Nat} {o : Opd} {A : Option Addr} {n c : Nat} (h : BoxO w b o A n c) (hT : Turn g w w') (hb : b ≠ g) : BoxO w' b o A n c :=
  boxO_of fun j v hv => hT.cell (p := ⟨b, 0 + j, none⟩) hb (h.range j v hv)
theorem ThereO.at_ {W : World} {b : Nat} (h : ThereO W b) (j : Nat) (hj : j < 17) : W.frozen? ⟨b, j, none⟩ = false := by
  have := (h j hj).2
  simpa using this
/-- The two boxes of a reading: the reader's at g, the operation's at b, made by the call. -/
structure Two (w0 W : World) (g b : Nat) (l : List UInt8) (o : Opd) (A : Option Addr) (n c : Nat) : Prop where
  rd : ∃ B m d, Rdr w0 W g B m d l
  bx : BoxO W b o A n c
  th : ThereO W b
  ne : b ≠ g
  lo : w0.heap.size ≤ b
theorem Two.turn {w0 W W' : World} {g b : Nat} {l l' : List UInt8} {o : Opd} {A : Option Addr} {n c : Nat} (h : Two w0 W g b l o A n c) (hT : Turn g W W') (hr : ∃ B m d, Rdr w0 W' g B m d l') : Two w0 W' g b l' o A n c :=
  ⟨hr, h.bx.turn hT h.ne, h.th.turn hT h.ne, h.ne, h.lo⟩
theorem Two.sets {w0 W : World} {g b : Nat} {l : List UInt8} {o o' : Opd} {A A' : Option Addr} {n c n' c' : Nat} (h : Two w0 W g b l o A n c) (off : Nat) (vs : List Value) (hb : BoxO (W.setCells b off vs) b o' A' n' c') : Two w0 (W.setCells b off vs) g b l o' A' n' c' := by
  obtain ⟨⟨B, m, d, hr⟩, _, ht, hn, hl⟩ := h
  exact ⟨⟨B, m, d, hr.other (fun k hk => heap_setCells b vs off W k hk) hn.symm (below_setCells b _ hl vs off W)⟩, hb, ht.sets off vs, hn, hl⟩
theorem Two.keep {w0 W W' : World} {g b : Nat} {l : List UInt8} {o : Opd} {A : Option Addr} {n c : Nat} (h : Two w0 W g b l o A n c) (hb : Below W.heap.size W W') : Two w0 W' g b l o A n c := by
  obtain ⟨⟨B, m, d, hr⟩, hx, ht, hn, hl⟩ := h
  exact ⟨⟨B, m, d, hr.keep hb⟩, hx.keep hb, ht.keep hb, hn, hl⟩

/-- A result that lies in a box. -/
theorem results_o {fn : Func} {p : Tmp} (h : fn.results = #[.cell p 35]) {tmps : Array Value} {w : World} {b : Nat} (hp : tmps.getD p undef = .pointer (some ⟨b, 0, none⟩)) {o : Opd} {A : Option Addr} {n c : Nat} (bx : BoxO w b o A n c) :
    (results fn tmps).run Try.prog w = .ok (.agg #[.int .u8 o.kd, .int .u8 o.l, .int .u32 o.c, .int .u8 o.k, .int .i64 o.s, .int .u8 o.fl, .int .u32 o.fc, .int .u8 o.fk, .int .i64 o.fn, .int .i64 o.fm, .int .u8 o.al, .int .u32 o.ac, .int .u8 o.ak, .int .i64 o.an, .int .u8 o.tl, .int .u32 o.tc, .slice A n c]) w := by
  have hl := run_loadVar_mid (P := Try.prog) w b 0 35 _ _ bx.range Try.underlying35 rfl info_O
  simp only [results, h]
  rw [Array.getD_eq_getD_getElem?] at hp
  simp [Sem.run_bind, hp, asAddr, hl]
theorem results_o3 {fn : Func} {p u v : Tmp} (h : fn.results = #[.cell p 35, .tmp u, .tmp v]) {tmps : Array Value} {w : World} {b : Nat} (hp : tmps.getD p undef = .pointer (some ⟨b, 0, none⟩)) {o : Opd} {A : Option Addr} {n c : Nat} (bx : BoxO w b o A n c) :
    (results fn tmps).run Try.prog w = .ok (.tuple #[.agg #[.int .u8 o.kd, .int .u8 o.l, .int .u32 o.c, .int .u8 o.k, .int .i64 o.s, .int .u8 o.fl, .int .u32 o.fc, .int .u8 o.fk, .int .i64 o.fn, .int .i64 o.fm, .int .u8 o.al, .int .u32 o.ac, .int .u8 o.ak, .int .i64 o.an, .int .u8 o.tl, .int .u32 o.tc, .slice A n c], tmps.getD u undef, tmps.getD v undef]) w := by
  have hl := run_loadVar_mid (P := Try.prog) w b 0 35 _ _ bx.range Try.underlying35 rfl info_O
  simp only [results, h]
  rw [Array.getD_eq_getD_getElem?] at hp
  simp [Sem.run_bind, hp, asAddr, hl]
end Go.Proofs.Ytbhglgcnoidddaa
