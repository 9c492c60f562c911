/- Texts on the program and its reference, put together (PiH). -/
import Derived.Test.YthfniffecceldaaMq5O
import Derived.Test.YthfniffecceldaaMq5K
/- Contracts: pulls by the program: which maker a kind has. -/
namespace Go.Proofs.Ythfniffecceldaa
open Go.RowKit

theorem Gives.below {n0 rb cb N cc : Nat} {l : List Nd} {src : List (List Int)} {G : PF} {w w1 w2 : World} {e : Ending} (h : Gives n0 rb cb N cc l src G w1 e w2) (hb : Below w.heap.size w w1) : Gives n0 rb cb N cc l src G w e w2 := by
  obtain ⟨fv, h1, h2, h3⟩ := h
  exact ⟨fv, h1, hb.trans (h2.mono hb.size), h3⟩

theorem mayS_in {src : List (List Int)} {x : Nd} {v : Int} {c : Cl} (e : x.k = 6) (hc : CellIn src x c) : CellIn src x (mayS x v c).1 := by
  unfold mayS
  split
  · exact ⟨⟨by simp, by simp [mostOf, e]⟩, hc.2⟩
  · exact hc

set_option maxRecDepth 100000 in
set_option maxHeartbeats 3200000 in
theorem stem_map {n0 rb cb N cc : Nat} {l : List Nd} {src : List (List Int)} {i : Nat} {w : World} (hr : rb < w.heap.size) (hc : cb < w.heap.size) {va : Value} {fa : PF} {ja : Nat} (hja : ja < i) (hFa : Fine l src ja fa) (hPa : Puller n0 rb cb N cc l src fa va w) {xa xb n m : Int} (hx : l[i]? = some ⟨1, xa, xb, n, m⟩) (hn : 0 ≤ n ∧ n ≤ 99 ∧ 0 ≤ m ∧ m ≤ 99) {G : PF} (hG : G = stemP (fun s => s.M l src + 1) i ⟨1, xa, xb, n, m⟩ fa) :
    Calls Try.prog 96 #[.agg #[.int .i64 1, .int .i64 xa, .int .i64 xb, .int .i64 n, .int .i64 m], .pointer (some ⟨cb, i * 6, none⟩), va] w (Gives n0 rb cb N cc l src G w) := by
  subst hG
  obtain ⟨ka, lba, rfl, ega, hpa⟩ := hPa
  have hf : Fr n0 rb cb w ((w.alloc (.cells #[.int .i64 1, .int .i64 xa, .int .i64 xb, .int .i64 n, .int .i64 m] 97)).alloc (.cells #[.pointer (some ⟨cb, i * 6, none⟩)] 122)) := Fr.of_below (below2 w _ _)
  have Pua : Puller n0 rb cb N cc l src fa (.func (.func ka) #[] lba) ((w.alloc (.cells #[.int .i64 1, .int .i64 xa, .int .i64 xb, .int .i64 n, .int .i64 m] 97)).alloc (.cells #[.pointer (some ⟨cb, i * 6, none⟩)] 122)) := Puller.fr ⟨ka, lba, rfl, ega, hpa⟩ hf
  have kxc : Bx rb cb ((w.alloc (.cells #[.int .i64 1, .int .i64 xa, .int .i64 xb, .int .i64 n, .int .i64 m] 97)).alloc (.cells #[.pointer (some ⟨cb, i * 6, none⟩)] 122)) (w.heap.size + 1) 122 (.pointer (some ⟨cb, i * 6, none⟩)) := Bx.new (by simp) (by simp; omega) (by simp; omega)
  have kn : Bk ((w.alloc (.cells #[.int .i64 1, .int .i64 xa, .int .i64 xb, .int .i64 n, .int .i64 m] 97)).alloc (.cells #[.pointer (some ⟨cb, i * 6, none⟩)] 122)) w.heap.size 97 [.int .i64 1, .int .i64 xa, .int .i64 xb, .int .i64 n, .int .i64 m] := (Bk.new w 97 [.int .i64 1, .int .i64 xa, .int .i64 xb, .int .i64 n, .int .i64 m]).alloc _
  have hr2 : rb < ((w.alloc (.cells #[.int .i64 1, .int .i64 xa, .int .i64 xb, .int .i64 n, .int .i64 m] 97)).alloc (.cells #[.pointer (some ⟨cb, i * 6, none⟩)] 122)).heap.size := by simp; omega
  have hc2 : cb < ((w.alloc (.cells #[.int .i64 1, .int .i64 xa, .int .i64 xb, .int .i64 n, .int .i64 m] 97)).alloc (.cells #[.pointer (some ⟨cb, i * 6, none⟩)] 122)).heap.size := by simp; omega
  have hl : ∀ s : PS, StOk l src s.cs → i < s.cs.length := fun s h => by rw [h.len]; exact (List.getElem?_eq_some_iff.1 hx).1
  have hcall := c_chg (i := i) hr2 hc2 hja hFa Pua (g_map kn (by omega) (by omega) hl hn)
  have Hcall := Lib.hid hcall
  have Hb := Lib.hid (below2 w (.cells #[.int .i64 1, .int .i64 xa, .int .i64 xb, .int .i64 n, .int .i64 m] 97) (.cells #[.pointer (some ⟨cb, i * 6, none⟩)] 122))
  have _u1 := hl
  have _u2 := kn
  have _u3 := kxc
  have _u4 := hja
  clear _u1 _u2 _u3 _u4
  clear ega hpa hf Pua kxc hr2 hc2 hl hcall hr hc hFa kn
  go_enter Try.func96, Try.ntmps96
  go_wp2_with fail
  refine Hcall.out.mono ?_
  rintro e w2 ⟨fv, rfl, hb2, hp2⟩
  have Hb2 := Lib.hid hb2
  have Hp2 := Lib.hid hp2
  clear hb2 hp2
  obtain ⟨kv, lbv, rfl, egv, hpv⟩ := Hp2.out
  have _u5 := egv
  have _u6 := hpv
  clear _u5 _u6 egv hpv
  go_wp2_with fail
  refine bodyPost_ret (v := .func (.func kv) #[] lbv) (by simp [results, Try.results96, go_sem]) rfl ?_
  exact ⟨_, rfl, Hb.out.trans (Hb2.out.mono Hb.out.size), by simpa [stemP] using Hp2.out⟩

set_option maxRecDepth 100000 in
set_option maxHeartbeats 3200000 in
theorem stem_filter {n0 rb cb N cc : Nat} {l : List Nd} {src : List (List Int)} {i : Nat} {w : World} (hr : rb < w.heap.size) (hc : cb < w.heap.size) {va : Value} {fa : PF} {ja : Nat} (hja : ja < i) (hFa : Fine l src ja fa) (hPa : Puller n0 rb cb N cc l src fa va w) {xa xb n m : Int} (hx : l[i]? = some ⟨2, xa, xb, n, m⟩) (hn : 1 ≤ n ∧ n ≤ 99) {G : PF} (hG : G = stemP (fun s => s.M l src + 1) i ⟨2, xa, xb, n, m⟩ fa) :
    Calls Try.prog 96 #[.agg #[.int .i64 2, .int .i64 xa, .int .i64 xb, .int .i64 n, .int .i64 m], .pointer (some ⟨cb, i * 6, none⟩), va] w (Gives n0 rb cb N cc l src G w) := by
  subst hG
  obtain ⟨ka, lba, rfl, ega, hpa⟩ := hPa
  have hf : Fr n0 rb cb w ((w.alloc (.cells #[.int .i64 2, .int .i64 xa, .int .i64 xb, .int .i64 n, .int .i64 m] 97)).alloc (.cells #[.pointer (some ⟨cb, i * 6, none⟩)] 122)) := Fr.of_below (below2 w _ _)
  have Pua : Puller n0 rb cb N cc l src fa (.func (.func ka) #[] lba) ((w.alloc (.cells #[.int .i64 2, .int .i64 xa, .int .i64 xb, .int .i64 n, .int .i64 m] 97)).alloc (.cells #[.pointer (some ⟨cb, i * 6, none⟩)] 122)) := Puller.fr ⟨ka, lba, rfl, ega, hpa⟩ hf
  have kxc : Bx rb cb ((w.alloc (.cells #[.int .i64 2, .int .i64 xa, .int .i64 xb, .int .i64 n, .int .i64 m] 97)).alloc (.cells #[.pointer (some ⟨cb, i * 6, none⟩)] 122)) (w.heap.size + 1) 122 (.pointer (some ⟨cb, i * 6, none⟩)) := Bx.new (by simp) (by simp; omega) (by simp; omega)
  have kn : Bk ((w.alloc (.cells #[.int .i64 2, .int .i64 xa, .int .i64 xb, .int .i64 n, .int .i64 m] 97)).alloc (.cells #[.pointer (some ⟨cb, i * 6, none⟩)] 122)) w.heap.size 97 [.int .i64 2, .int .i64 xa, .int .i64 xb, .int .i64 n, .int .i64 m] := (Bk.new w 97 [.int .i64 2, .int .i64 xa, .int .i64 xb, .int .i64 n, .int .i64 m]).alloc _
  have hr2 : rb < ((w.alloc (.cells #[.int .i64 2, .int .i64 xa, .int .i64 xb, .int .i64 n, .int .i64 m] 97)).alloc (.cells #[.pointer (some ⟨cb, i * 6, none⟩)] 122)).heap.size := by simp; omega
  have hc2 : cb < ((w.alloc (.cells #[.int .i64 2, .int .i64 xa, .int .i64 xb, .int .i64 n, .int .i64 m] 97)).alloc (.cells #[.pointer (some ⟨cb, i * 6, none⟩)] 122)).heap.size := by simp; omega
  have hl : ∀ s : PS, StOk l src s.cs → i < s.cs.length := fun s h => by rw [h.len]; exact (List.getElem?_eq_some_iff.1 hx).1
  have hcall := c_some (i := i) hr2 hc2 hja hFa Pua (g_filter kn (by omega) (by omega) hl hn) hx ⟨by simp, by simp⟩ (fun v c _ hc => hc)
  have Hcall := Lib.hid hcall
  have Hb := Lib.hid (below2 w (.cells #[.int .i64 2, .int .i64 xa, .int .i64 xb, .int .i64 n, .int .i64 m] 97) (.cells #[.pointer (some ⟨cb, i * 6, none⟩)] 122))
  have _u1 := hl
  have _u2 := kn
  have _u3 := kxc
  have _u4 := hja
  clear _u1 _u2 _u3 _u4
  clear ega hpa hf Pua kxc hr2 hc2 hl hcall hr hc hFa kn
  go_enter Try.func96, Try.ntmps96
  go_wp2_with fail
  refine Hcall.out.mono ?_
  rintro e w2 ⟨fv, rfl, hb2, hp2⟩
  have Hb2 := Lib.hid hb2
  have Hp2 := Lib.hid hp2
  clear hb2 hp2
  obtain ⟨kv, lbv, rfl, egv, hpv⟩ := Hp2.out
  have _u5 := egv
  have _u6 := hpv
  clear _u5 _u6 egv hpv
  go_wp2_with fail
  refine bodyPost_ret (v := .func (.func kv) #[] lbv) (by simp [results, Try.results96, go_sem]) rfl ?_
  exact ⟨_, rfl, Hb.out.trans (Hb2.out.mono Hb.out.size), by simpa [stemP] using Hp2.out⟩

set_option maxRecDepth 100000 in
set_option maxHeartbeats 3200000 in
theorem stem_take {n0 rb cb N cc : Nat} {l : List Nd} {src : List (List Int)} {i : Nat} {w : World} (hr : rb < w.heap.size) (hc : cb < w.heap.size) {va : Value} {fa : PF} {ja : Nat} (hja : ja < i) (hFa : Fine l src ja fa) (hPa : Puller n0 rb cb N cc l src fa va w) {xa xb n m : Int} (hx : l[i]? = some ⟨3, xa, xb, n, m⟩) (hn : 0 ≤ n ∧ n ≤ 30) {G : PF} (hG : G = stemP (fun s => s.M l src + 1) i ⟨3, xa, xb, n, m⟩ fa) :
    Calls Try.prog 96 #[.agg #[.int .i64 3, .int .i64 xa, .int .i64 xb, .int .i64 n, .int .i64 m], .pointer (some ⟨cb, i * 6, none⟩), va] w (Gives n0 rb cb N cc l src G w) := by
  subst hG
  obtain ⟨ka, lba, rfl, ega, hpa⟩ := hPa
  have hf : Fr n0 rb cb w ((w.alloc (.cells #[.int .i64 3, .int .i64 xa, .int .i64 xb, .int .i64 n, .int .i64 m] 97)).alloc (.cells #[.pointer (some ⟨cb, i * 6, none⟩)] 122)) := Fr.of_below (below2 w _ _)
  have Pua : Puller n0 rb cb N cc l src fa (.func (.func ka) #[] lba) ((w.alloc (.cells #[.int .i64 3, .int .i64 xa, .int .i64 xb, .int .i64 n, .int .i64 m] 97)).alloc (.cells #[.pointer (some ⟨cb, i * 6, none⟩)] 122)) := Puller.fr ⟨ka, lba, rfl, ega, hpa⟩ hf
  have kxc : Bx rb cb ((w.alloc (.cells #[.int .i64 3, .int .i64 xa, .int .i64 xb, .int .i64 n, .int .i64 m] 97)).alloc (.cells #[.pointer (some ⟨cb, i * 6, none⟩)] 122)) (w.heap.size + 1) 122 (.pointer (some ⟨cb, i * 6, none⟩)) := Bx.new (by simp) (by simp; omega) (by simp; omega)
  have kn : Bk ((w.alloc (.cells #[.int .i64 3, .int .i64 xa, .int .i64 xb, .int .i64 n, .int .i64 m] 97)).alloc (.cells #[.pointer (some ⟨cb, i * 6, none⟩)] 122)) w.heap.size 97 [.int .i64 3, .int .i64 xa, .int .i64 xb, .int .i64 n, .int .i64 m] := (Bk.new w 97 [.int .i64 3, .int .i64 xa, .int .i64 xb, .int .i64 n, .int .i64 m]).alloc _
  have hr2 : rb < ((w.alloc (.cells #[.int .i64 3, .int .i64 xa, .int .i64 xb, .int .i64 n, .int .i64 m] 97)).alloc (.cells #[.pointer (some ⟨cb, i * 6, none⟩)] 122)).heap.size := by simp; omega
  have hc2 : cb < ((w.alloc (.cells #[.int .i64 3, .int .i64 xa, .int .i64 xb, .int .i64 n, .int .i64 m] 97)).alloc (.cells #[.pointer (some ⟨cb, i * 6, none⟩)] 122)).heap.size := by simp; omega
  have hl : ∀ s : PS, StOk l src s.cs → i < s.cs.length := fun s h => by rw [h.len]; exact (List.getElem?_eq_some_iff.1 hx).1
  have hcall := c_take (i := i) hr2 hc2 hja hFa Pua hx hn
  have Hcall := Lib.hid hcall
  have Hb := Lib.hid (below2 w (.cells #[.int .i64 3, .int .i64 xa, .int .i64 xb, .int .i64 n, .int .i64 m] 97) (.cells #[.pointer (some ⟨cb, i * 6, none⟩)] 122))
  have _u1 := hl
  have _u2 := kn
  have _u3 := kxc
  have _u4 := hja
  clear _u1 _u2 _u3 _u4
  clear ega hpa hf Pua kxc hr2 hc2 hl hcall hr hc hFa kn
  go_enter Try.func96, Try.ntmps96
  go_wp2_with fail
  refine Hcall.out.mono ?_
  rintro e w2 ⟨fv, rfl, hb2, hp2⟩
  have Hb2 := Lib.hid hb2
  have Hp2 := Lib.hid hp2
  clear hb2 hp2
  obtain ⟨kv, lbv, rfl, egv, hpv⟩ := Hp2.out
  have _u5 := egv
  have _u6 := hpv
  clear _u5 _u6 egv hpv
  go_wp2_with fail
  refine bodyPost_ret (v := .func (.func kv) #[] lbv) (by simp [results, Try.results96, go_sem]) rfl ?_
  exact ⟨_, rfl, Hb.out.trans (Hb2.out.mono Hb.out.size), by simpa [stemP] using Hp2.out⟩

set_option maxRecDepth 100000 in
set_option maxHeartbeats 3200000 in
theorem stem_drop {n0 rb cb N cc : Nat} {l : List Nd} {src : List (List Int)} {i : Nat} {w : World} (hr : rb < w.heap.size) (hc : cb < w.heap.size) {va : Value} {fa : PF} {ja : Nat} (hja : ja < i) (hFa : Fine l src ja fa) (hPa : Puller n0 rb cb N cc l src fa va w) {xa xb n m : Int} (hx : l[i]? = some ⟨4, xa, xb, n, m⟩) (hn : 0 ≤ n ∧ n ≤ 30) {G : PF} (hG : G = stemP (fun s => s.M l src + 1) i ⟨4, xa, xb, n, m⟩ fa) :
    Calls Try.prog 96 #[.agg #[.int .i64 4, .int .i64 xa, .int .i64 xb, .int .i64 n, .int .i64 m], .pointer (some ⟨cb, i * 6, none⟩), va] w (Gives n0 rb cb N cc l src G w) := by
  subst hG
  obtain ⟨ka, lba, rfl, ega, hpa⟩ := hPa
  have hf : Fr n0 rb cb w ((w.alloc (.cells #[.int .i64 4, .int .i64 xa, .int .i64 xb, .int .i64 n, .int .i64 m] 97)).alloc (.cells #[.pointer (some ⟨cb, i * 6, none⟩)] 122)) := Fr.of_below (below2 w _ _)
  have Pua : Puller n0 rb cb N cc l src fa (.func (.func ka) #[] lba) ((w.alloc (.cells #[.int .i64 4, .int .i64 xa, .int .i64 xb, .int .i64 n, .int .i64 m] 97)).alloc (.cells #[.pointer (some ⟨cb, i * 6, none⟩)] 122)) := Puller.fr ⟨ka, lba, rfl, ega, hpa⟩ hf
  have kxc : Bx rb cb ((w.alloc (.cells #[.int .i64 4, .int .i64 xa, .int .i64 xb, .int .i64 n, .int .i64 m] 97)).alloc (.cells #[.pointer (some ⟨cb, i * 6, none⟩)] 122)) (w.heap.size + 1) 122 (.pointer (some ⟨cb, i * 6, none⟩)) := Bx.new (by simp) (by simp; omega) (by simp; omega)
  have kn : Bk ((w.alloc (.cells #[.int .i64 4, .int .i64 xa, .int .i64 xb, .int .i64 n, .int .i64 m] 97)).alloc (.cells #[.pointer (some ⟨cb, i * 6, none⟩)] 122)) w.heap.size 97 [.int .i64 4, .int .i64 xa, .int .i64 xb, .int .i64 n, .int .i64 m] := (Bk.new w 97 [.int .i64 4, .int .i64 xa, .int .i64 xb, .int .i64 n, .int .i64 m]).alloc _
  have hr2 : rb < ((w.alloc (.cells #[.int .i64 4, .int .i64 xa, .int .i64 xb, .int .i64 n, .int .i64 m] 97)).alloc (.cells #[.pointer (some ⟨cb, i * 6, none⟩)] 122)).heap.size := by simp; omega
  have hc2 : cb < ((w.alloc (.cells #[.int .i64 4, .int .i64 xa, .int .i64 xb, .int .i64 n, .int .i64 m] 97)).alloc (.cells #[.pointer (some ⟨cb, i * 6, none⟩)] 122)).heap.size := by simp; omega
  have hl : ∀ s : PS, StOk l src s.cs → i < s.cs.length := fun s h => by rw [h.len]; exact (List.getElem?_eq_some_iff.1 hx).1
  have hcall := c_drop (i := i) hr2 hc2 hja hFa Pua hx hn
  have Hcall := Lib.hid hcall
  have Hb := Lib.hid (below2 w (.cells #[.int .i64 4, .int .i64 xa, .int .i64 xb, .int .i64 n, .int .i64 m] 97) (.cells #[.pointer (some ⟨cb, i * 6, none⟩)] 122))
  have _u1 := hl
  have _u2 := kn
  have _u3 := kxc
  have _u4 := hja
  clear _u1 _u2 _u3 _u4
  clear ega hpa hf Pua kxc hr2 hc2 hl hcall hr hc hFa kn
  go_enter Try.func96, Try.ntmps96
  go_wp2_with fail
  refine Hcall.out.mono ?_
  rintro e w2 ⟨fv, rfl, hb2, hp2⟩
  have Hb2 := Lib.hid hb2
  have Hp2 := Lib.hid hp2
  clear hb2 hp2
  obtain ⟨kv, lbv, rfl, egv, hpv⟩ := Hp2.out
  have _u5 := egv
  have _u6 := hpv
  clear _u5 _u6 egv hpv
  go_wp2_with fail
  refine bodyPost_ret (v := .func (.func kv) #[] lbv) (by simp [results, Try.results96, go_sem]) rfl ?_
  exact ⟨_, rfl, Hb.out.trans (Hb2.out.mono Hb.out.size), by simpa [stemP] using Hp2.out⟩

set_option maxRecDepth 100000 in
set_option maxHeartbeats 3200000 in
theorem stem_while {n0 rb cb N cc : Nat} {l : List Nd} {src : List (List Int)} {i : Nat} {w : World} (hr : rb < w.heap.size) (hc : cb < w.heap.size) {va : Value} {fa : PF} {ja : Nat} (hja : ja < i) (hFa : Fine l src ja fa) (hPa : Puller n0 rb cb N cc l src fa va w) {xa xb n m : Int} (hx : l[i]? = some ⟨5, xa, xb, n, m⟩) {G : PF} (hG : G = stemP (fun s => s.M l src + 1) i ⟨5, xa, xb, n, m⟩ fa) :
    Calls Try.prog 96 #[.agg #[.int .i64 5, .int .i64 xa, .int .i64 xb, .int .i64 n, .int .i64 m], .pointer (some ⟨cb, i * 6, none⟩), va] w (Gives n0 rb cb N cc l src G w) := by
  subst hG
  obtain ⟨ka, lba, rfl, ega, hpa⟩ := hPa
  have hf : Fr n0 rb cb w ((w.alloc (.cells #[.int .i64 5, .int .i64 xa, .int .i64 xb, .int .i64 n, .int .i64 m] 97)).alloc (.cells #[.pointer (some ⟨cb, i * 6, none⟩)] 122)) := Fr.of_below (below2 w _ _)
  have Pua : Puller n0 rb cb N cc l src fa (.func (.func ka) #[] lba) ((w.alloc (.cells #[.int .i64 5, .int .i64 xa, .int .i64 xb, .int .i64 n, .int .i64 m] 97)).alloc (.cells #[.pointer (some ⟨cb, i * 6, none⟩)] 122)) := Puller.fr ⟨ka, lba, rfl, ega, hpa⟩ hf
  have kxc : Bx rb cb ((w.alloc (.cells #[.int .i64 5, .int .i64 xa, .int .i64 xb, .int .i64 n, .int .i64 m] 97)).alloc (.cells #[.pointer (some ⟨cb, i * 6, none⟩)] 122)) (w.heap.size + 1) 122 (.pointer (some ⟨cb, i * 6, none⟩)) := Bx.new (by simp) (by simp; omega) (by simp; omega)
  have kn : Bk ((w.alloc (.cells #[.int .i64 5, .int .i64 xa, .int .i64 xb, .int .i64 n, .int .i64 m] 97)).alloc (.cells #[.pointer (some ⟨cb, i * 6, none⟩)] 122)) w.heap.size 97 [.int .i64 5, .int .i64 xa, .int .i64 xb, .int .i64 n, .int .i64 m] := (Bk.new w 97 [.int .i64 5, .int .i64 xa, .int .i64 xb, .int .i64 n, .int .i64 m]).alloc _
  have hr2 : rb < ((w.alloc (.cells #[.int .i64 5, .int .i64 xa, .int .i64 xb, .int .i64 n, .int .i64 m] 97)).alloc (.cells #[.pointer (some ⟨cb, i * 6, none⟩)] 122)).heap.size := by simp; omega
  have hc2 : cb < ((w.alloc (.cells #[.int .i64 5, .int .i64 xa, .int .i64 xb, .int .i64 n, .int .i64 m] 97)).alloc (.cells #[.pointer (some ⟨cb, i * 6, none⟩)] 122)).heap.size := by simp; omega
  have hl : ∀ s : PS, StOk l src s.cs → i < s.cs.length := fun s h => by rw [h.len]; exact (List.getElem?_eq_some_iff.1 hx).1
  have hcall := c_while (n := n) (i := i) hr2 hc2 hja hFa Pua
  have Hcall := Lib.hid hcall
  have Hb := Lib.hid (below2 w (.cells #[.int .i64 5, .int .i64 xa, .int .i64 xb, .int .i64 n, .int .i64 m] 97) (.cells #[.pointer (some ⟨cb, i * 6, none⟩)] 122))
  have _u1 := hl
  have _u2 := kn
  have _u3 := kxc
  have _u4 := hja
  clear _u1 _u2 _u3 _u4
  clear ega hpa hf Pua kxc hr2 hc2 hl hcall hr hc hFa kn
  go_enter Try.func96, Try.ntmps96
  go_wp2_with fail
  refine Hcall.out.mono ?_
  rintro e w2 ⟨fv, rfl, hb2, hp2⟩
  have Hb2 := Lib.hid hb2
  have Hp2 := Lib.hid hp2
  clear hb2 hp2
  obtain ⟨kv, lbv, rfl, egv, hpv⟩ := Hp2.out
  have _u5 := egv
  have _u6 := hpv
  clear _u5 _u6 egv hpv
  go_wp2_with fail
  refine bodyPost_ret (v := .func (.func kv) #[] lbv) (by simp [results, Try.results96, go_sem]) rfl ?_
  exact ⟨_, rfl, Hb.out.trans (Hb2.out.mono Hb.out.size), by simpa [stemP] using Hp2.out⟩

set_option maxRecDepth 100000 in
set_option maxHeartbeats 3200000 in
theorem stem_skip {n0 rb cb N cc : Nat} {l : List Nd} {src : List (List Int)} {i : Nat} {w : World} (hr : rb < w.heap.size) (hc : cb < w.heap.size) {va : Value} {fa : PF} {ja : Nat} (hja : ja < i) (hFa : Fine l src ja fa) (hPa : Puller n0 rb cb N cc l src fa va w) {xa xb n m : Int} (hx : l[i]? = some ⟨6, xa, xb, n, m⟩) {G : PF} (hG : G = stemP (fun s => s.M l src + 1) i ⟨6, xa, xb, n, m⟩ fa) :
    Calls Try.prog 96 #[.agg #[.int .i64 6, .int .i64 xa, .int .i64 xb, .int .i64 n, .int .i64 m], .pointer (some ⟨cb, i * 6, none⟩), va] w (Gives n0 rb cb N cc l src G w) := by
  subst hG
  obtain ⟨ka, lba, rfl, ega, hpa⟩ := hPa
  have hf : Fr n0 rb cb w ((w.alloc (.cells #[.int .i64 6, .int .i64 xa, .int .i64 xb, .int .i64 n, .int .i64 m] 97)).alloc (.cells #[.pointer (some ⟨cb, i * 6, none⟩)] 122)) := Fr.of_below (below2 w _ _)
  have Pua : Puller n0 rb cb N cc l src fa (.func (.func ka) #[] lba) ((w.alloc (.cells #[.int .i64 6, .int .i64 xa, .int .i64 xb, .int .i64 n, .int .i64 m] 97)).alloc (.cells #[.pointer (some ⟨cb, i * 6, none⟩)] 122)) := Puller.fr ⟨ka, lba, rfl, ega, hpa⟩ hf
  have kxc : Bx rb cb ((w.alloc (.cells #[.int .i64 6, .int .i64 xa, .int .i64 xb, .int .i64 n, .int .i64 m] 97)).alloc (.cells #[.pointer (some ⟨cb, i * 6, none⟩)] 122)) (w.heap.size + 1) 122 (.pointer (some ⟨cb, i * 6, none⟩)) := Bx.new (by simp) (by simp; omega) (by simp; omega)
  have kn : Bk ((w.alloc (.cells #[.int .i64 6, .int .i64 xa, .int .i64 xb, .int .i64 n, .int .i64 m] 97)).alloc (.cells #[.pointer (some ⟨cb, i * 6, none⟩)] 122)) w.heap.size 97 [.int .i64 6, .int .i64 xa, .int .i64 xb, .int .i64 n, .int .i64 m] := (Bk.new w 97 [.int .i64 6, .int .i64 xa, .int .i64 xb, .int .i64 n, .int .i64 m]).alloc _
  have hr2 : rb < ((w.alloc (.cells #[.int .i64 6, .int .i64 xa, .int .i64 xb, .int .i64 n, .int .i64 m] 97)).alloc (.cells #[.pointer (some ⟨cb, i * 6, none⟩)] 122)).heap.size := by simp; omega
  have hc2 : cb < ((w.alloc (.cells #[.int .i64 6, .int .i64 xa, .int .i64 xb, .int .i64 n, .int .i64 m] 97)).alloc (.cells #[.pointer (some ⟨cb, i * 6, none⟩)] 122)).heap.size := by simp; omega
  have hl : ∀ s : PS, StOk l src s.cs → i < s.cs.length := fun s h => by rw [h.len]; exact (List.getElem?_eq_some_iff.1 hx).1
  have hcall := c_some (i := i) hr2 hc2 hja hFa Pua (g_skip kxc kn (by omega) (by omega) hl) hx ⟨by simp, by simp⟩ (fun v c _ hc => mayS_in rfl hc)
  have Hcall := Lib.hid hcall
  have Hb := Lib.hid (below2 w (.cells #[.int .i64 6, .int .i64 xa, .int .i64 xb, .int .i64 n, .int .i64 m] 97) (.cells #[.pointer (some ⟨cb, i * 6, none⟩)] 122))
  have _u1 := hl
  have _u2 := kn
  have _u3 := kxc
  have _u4 := hja
  clear _u1 _u2 _u3 _u4
  clear ega hpa hf Pua kxc hr2 hc2 hl hcall hr hc hFa kn
  go_enter Try.func96, Try.ntmps96
  go_wp2_with fail
  refine Hcall.out.mono ?_
  rintro e w2 ⟨fv, rfl, hb2, hp2⟩
  have Hb2 := Lib.hid hb2
  have Hp2 := Lib.hid hp2
  clear hb2 hp2
  obtain ⟨kv, lbv, rfl, egv, hpv⟩ := Hp2.out
  have _u5 := egv
  have _u6 := hpv
  clear _u5 _u6 egv hpv
  go_wp2_with fail
  refine bodyPost_ret (v := .func (.func kv) #[] lbv) (by simp [results, Try.results96, go_sem]) rfl ?_
  exact ⟨_, rfl, Hb.out.trans (Hb2.out.mono Hb.out.size), by simpa [stemP] using Hp2.out⟩

set_option maxRecDepth 100000 in
set_option maxHeartbeats 3200000 in
theorem stem_scan {n0 rb cb N cc : Nat} {l : List Nd} {src : List (List Int)} {i : Nat} {w : World} (hr : rb < w.heap.size) (hc : cb < w.heap.size) {va : Value} {fa : PF} {ja : Nat} (hja : ja < i) (hFa : Fine l src ja fa) (hPa : Puller n0 rb cb N cc l src fa va w) {xa xb n m : Int} (hx : l[i]? = some ⟨11, xa, xb, n, m⟩) {G : PF} (hG : G = stemP (fun s => s.M l src + 1) i ⟨11, xa, xb, n, m⟩ fa) :
    Calls Try.prog 96 #[.agg #[.int .i64 11, .int .i64 xa, .int .i64 xb, .int .i64 n, .int .i64 m], .pointer (some ⟨cb, i * 6, none⟩), va] w (Gives n0 rb cb N cc l src G w) := by
  subst hG
  obtain ⟨ka, lba, rfl, ega, hpa⟩ := hPa
  have hf : Fr n0 rb cb w ((w.alloc (.cells #[.int .i64 11, .int .i64 xa, .int .i64 xb, .int .i64 n, .int .i64 m] 97)).alloc (.cells #[.pointer (some ⟨cb, i * 6, none⟩)] 122)) := Fr.of_below (below2 w _ _)
  have Pua : Puller n0 rb cb N cc l src fa (.func (.func ka) #[] lba) ((w.alloc (.cells #[.int .i64 11, .int .i64 xa, .int .i64 xb, .int .i64 n, .int .i64 m] 97)).alloc (.cells #[.pointer (some ⟨cb, i * 6, none⟩)] 122)) := Puller.fr ⟨ka, lba, rfl, ega, hpa⟩ hf
  have kxc : Bx rb cb ((w.alloc (.cells #[.int .i64 11, .int .i64 xa, .int .i64 xb, .int .i64 n, .int .i64 m] 97)).alloc (.cells #[.pointer (some ⟨cb, i * 6, none⟩)] 122)) (w.heap.size + 1) 122 (.pointer (some ⟨cb, i * 6, none⟩)) := Bx.new (by simp) (by simp; omega) (by simp; omega)
  have kn : Bk ((w.alloc (.cells #[.int .i64 11, .int .i64 xa, .int .i64 xb, .int .i64 n, .int .i64 m] 97)).alloc (.cells #[.pointer (some ⟨cb, i * 6, none⟩)] 122)) w.heap.size 97 [.int .i64 11, .int .i64 xa, .int .i64 xb, .int .i64 n, .int .i64 m] := (Bk.new w 97 [.int .i64 11, .int .i64 xa, .int .i64 xb, .int .i64 n, .int .i64 m]).alloc _
  have hr2 : rb < ((w.alloc (.cells #[.int .i64 11, .int .i64 xa, .int .i64 xb, .int .i64 n, .int .i64 m] 97)).alloc (.cells #[.pointer (some ⟨cb, i * 6, none⟩)] 122)).heap.size := by simp; omega
  have hc2 : cb < ((w.alloc (.cells #[.int .i64 11, .int .i64 xa, .int .i64 xb, .int .i64 n, .int .i64 m] 97)).alloc (.cells #[.pointer (some ⟨cb, i * 6, none⟩)] 122)).heap.size := by simp; omega
  have hl : ∀ s : PS, StOk l src s.cs → i < s.cs.length := fun s h => by rw [h.len]; exact (List.getElem?_eq_some_iff.1 hx).1
  have hcall := c_chg (i := i) hr2 hc2 hja hFa Pua (g_scan kxc hx rfl)
  have Hcall := Lib.hid hcall
  have Hb := Lib.hid (below2 w (.cells #[.int .i64 11, .int .i64 xa, .int .i64 xb, .int .i64 n, .int .i64 m] 97) (.cells #[.pointer (some ⟨cb, i * 6, none⟩)] 122))
  have _u1 := hl
  have _u2 := kn
  have _u3 := kxc
  have _u4 := hja
  clear _u1 _u2 _u3 _u4
  clear ega hpa hf Pua kxc hr2 hc2 hl hcall hr hc hFa kn
  go_enter Try.func96, Try.ntmps96
  go_wp2_with fail
  refine Hcall.out.mono ?_
  rintro e w2 ⟨fv, rfl, hb2, hp2⟩
  have Hb2 := Lib.hid hb2
  have Hp2 := Lib.hid hp2
  clear hb2 hp2
  obtain ⟨kv, lbv, rfl, egv, hpv⟩ := Hp2.out
  have _u5 := egv
  have _u6 := hpv
  clear _u5 _u6 egv hpv
  go_wp2_with fail
  refine bodyPost_ret (v := .func (.func kv) #[] lbv) (by simp [results, Try.results96, go_sem]) rfl ?_
  exact ⟨_, rfl, Hb.out.trans (Hb2.out.mono Hb.out.size), by simpa [stemP] using Hp2.out⟩

set_option maxRecDepth 100000 in
set_option maxHeartbeats 3200000 in
theorem stem_batch {n0 rb cb N cc : Nat} {l : List Nd} {src : List (List Int)} {i : Nat} {w : World} (hr : rb < w.heap.size) (hc : cb < w.heap.size) {va : Value} {fa : PF} {ja : Nat} (hja : ja < i) (hFa : Fine l src ja fa) (hPa : Puller n0 rb cb N cc l src fa va w) {xa xb n m : Int} (hx : l[i]? = some ⟨12, xa, xb, n, m⟩) (hn : 1 ≤ n ∧ n ≤ 30) {G : PF} (hG : G = stemP (fun s => s.M l src + 1) i ⟨12, xa, xb, n, m⟩ fa) :
    Calls Try.prog 96 #[.agg #[.int .i64 12, .int .i64 xa, .int .i64 xb, .int .i64 n, .int .i64 m], .pointer (some ⟨cb, i * 6, none⟩), va] w (Gives n0 rb cb N cc l src G w) := by
  subst hG
  obtain ⟨ka, lba, rfl, ega, hpa⟩ := hPa
  have hf : Fr n0 rb cb w ((w.alloc (.cells #[.int .i64 12, .int .i64 xa, .int .i64 xb, .int .i64 n, .int .i64 m] 97)).alloc (.cells #[.pointer (some ⟨cb, i * 6, none⟩)] 122)) := Fr.of_below (below2 w _ _)
  have Pua : Puller n0 rb cb N cc l src fa (.func (.func ka) #[] lba) ((w.alloc (.cells #[.int .i64 12, .int .i64 xa, .int .i64 xb, .int .i64 n, .int .i64 m] 97)).alloc (.cells #[.pointer (some ⟨cb, i * 6, none⟩)] 122)) := Puller.fr ⟨ka, lba, rfl, ega, hpa⟩ hf
  have kxc : Bx rb cb ((w.alloc (.cells #[.int .i64 12, .int .i64 xa, .int .i64 xb, .int .i64 n, .int .i64 m] 97)).alloc (.cells #[.pointer (some ⟨cb, i * 6, none⟩)] 122)) (w.heap.size + 1) 122 (.pointer (some ⟨cb, i * 6, none⟩)) := Bx.new (by simp) (by simp; omega) (by simp; omega)
  have kn : Bk ((w.alloc (.cells #[.int .i64 12, .int .i64 xa, .int .i64 xb, .int .i64 n, .int .i64 m] 97)).alloc (.cells #[.pointer (some ⟨cb, i * 6, none⟩)] 122)) w.heap.size 97 [.int .i64 12, .int .i64 xa, .int .i64 xb, .int .i64 n, .int .i64 m] := (Bk.new w 97 [.int .i64 12, .int .i64 xa, .int .i64 xb, .int .i64 n, .int .i64 m]).alloc _
  have hr2 : rb < ((w.alloc (.cells #[.int .i64 12, .int .i64 xa, .int .i64 xb, .int .i64 n, .int .i64 m] 97)).alloc (.cells #[.pointer (some ⟨cb, i * 6, none⟩)] 122)).heap.size := by simp; omega
  have hc2 : cb < ((w.alloc (.cells #[.int .i64 12, .int .i64 xa, .int .i64 xb, .int .i64 n, .int .i64 m] 97)).alloc (.cells #[.pointer (some ⟨cb, i * 6, none⟩)] 122)).heap.size := by simp; omega
  have hl : ∀ s : PS, StOk l src s.cs → i < s.cs.length := fun s h => by rw [h.len]; exact (List.getElem?_eq_some_iff.1 hx).1
  have hcall := c_batch hr2 hc2 hFa Pua hn
  have Hcall := Lib.hid hcall
  have Hb := Lib.hid (below2 w (.cells #[.int .i64 12, .int .i64 xa, .int .i64 xb, .int .i64 n, .int .i64 m] 97) (.cells #[.pointer (some ⟨cb, i * 6, none⟩)] 122))
  have _u1 := hl
  have _u2 := kn
  have _u3 := kxc
  have _u4 := hja
  clear _u1 _u2 _u3 _u4
  clear ega hpa hf Pua kxc hr2 hc2 hl hcall hr hc hFa kn
  go_enter Try.func96, Try.ntmps96
  go_wp2_with fail
  refine Hcall.out.mono ?_
  rintro e w2 ⟨fv, rfl, hb2, hp2⟩
  have Hb2 := Lib.hid hb2
  have Hp2 := Lib.hid hp2
  clear hb2 hp2
  obtain ⟨kv, lbv, rfl, egv, hpv⟩ := Hp2.out
  have _u5 := egv
  have _u6 := hpv
  clear _u5 _u6 egv hpv
  go_wp2_with fail
  refine bodyPost_ret (v := .func (.func kv) #[] lbv) (by simp [results, Try.results96, go_sem]) rfl ?_
  exact ⟨_, rfl, Hb.out.trans (Hb2.out.mono Hb.out.size), by simpa [stemP] using Hp2.out⟩

set_option maxRecDepth 100000 in
set_option maxHeartbeats 3200000 in
theorem stem_once {n0 rb cb N cc : Nat} {l : List Nd} {src : List (List Int)} {i : Nat} {w : World} (hr : rb < w.heap.size) (hc : cb < w.heap.size) {va : Value} {fa : PF} {ja : Nat} (hja : ja < i) (hFa : Fine l src ja fa) (hPa : Puller n0 rb cb N cc l src fa va w) {xa xb n m : Int} (hx : l[i]? = some ⟨13, xa, xb, n, m⟩) {G : PF} (hG : G = stemP (fun s => s.M l src + 1) i ⟨13, xa, xb, n, m⟩ fa) :
    Calls Try.prog 96 #[.agg #[.int .i64 13, .int .i64 xa, .int .i64 xb, .int .i64 n, .int .i64 m], .pointer (some ⟨cb, i * 6, none⟩), va] w (Gives n0 rb cb N cc l src G w) := by
  subst hG
  obtain ⟨ka, lba, rfl, ega, hpa⟩ := hPa
  have hf : Fr n0 rb cb w ((w.alloc (.cells #[.int .i64 13, .int .i64 xa, .int .i64 xb, .int .i64 n, .int .i64 m] 97)).alloc (.cells #[.pointer (some ⟨cb, i * 6, none⟩)] 122)) := Fr.of_below (below2 w _ _)
  have Pua : Puller n0 rb cb N cc l src fa (.func (.func ka) #[] lba) ((w.alloc (.cells #[.int .i64 13, .int .i64 xa, .int .i64 xb, .int .i64 n, .int .i64 m] 97)).alloc (.cells #[.pointer (some ⟨cb, i * 6, none⟩)] 122)) := Puller.fr ⟨ka, lba, rfl, ega, hpa⟩ hf
  have kxc : Bx rb cb ((w.alloc (.cells #[.int .i64 13, .int .i64 xa, .int .i64 xb, .int .i64 n, .int .i64 m] 97)).alloc (.cells #[.pointer (some ⟨cb, i * 6, none⟩)] 122)) (w.heap.size + 1) 122 (.pointer (some ⟨cb, i * 6, none⟩)) := Bx.new (by simp) (by simp; omega) (by simp; omega)
  have kn : Bk ((w.alloc (.cells #[.int .i64 13, .int .i64 xa, .int .i64 xb, .int .i64 n, .int .i64 m] 97)).alloc (.cells #[.pointer (some ⟨cb, i * 6, none⟩)] 122)) w.heap.size 97 [.int .i64 13, .int .i64 xa, .int .i64 xb, .int .i64 n, .int .i64 m] := (Bk.new w 97 [.int .i64 13, .int .i64 xa, .int .i64 xb, .int .i64 n, .int .i64 m]).alloc _
  have hr2 : rb < ((w.alloc (.cells #[.int .i64 13, .int .i64 xa, .int .i64 xb, .int .i64 n, .int .i64 m] 97)).alloc (.cells #[.pointer (some ⟨cb, i * 6, none⟩)] 122)).heap.size := by simp; omega
  have hc2 : cb < ((w.alloc (.cells #[.int .i64 13, .int .i64 xa, .int .i64 xb, .int .i64 n, .int .i64 m] 97)).alloc (.cells #[.pointer (some ⟨cb, i * 6, none⟩)] 122)).heap.size := by simp; omega
  have hl : ∀ s : PS, StOk l src s.cs → i < s.cs.length := fun s h => by rw [h.len]; exact (List.getElem?_eq_some_iff.1 hx).1
  have hcall := c_some (i := i) hr2 hc2 hja hFa Pua (g_once kxc hl) hx ⟨by simp, by simp⟩ (fun v c hv hc => ⟨hc.1, ⟨hv, hc.2.2⟩⟩)
  have Hcall := Lib.hid hcall
  have Hb := Lib.hid (below2 w (.cells #[.int .i64 13, .int .i64 xa, .int .i64 xb, .int .i64 n, .int .i64 m] 97) (.cells #[.pointer (some ⟨cb, i * 6, none⟩)] 122))
  have _u1 := hl
  have _u2 := kn
  have _u3 := kxc
  have _u4 := hja
  clear _u1 _u2 _u3 _u4
  clear ega hpa hf Pua kxc hr2 hc2 hl hcall hr hc hFa kn
  go_enter Try.func96, Try.ntmps96
  go_wp2_with fail
  refine Hcall.out.mono ?_
  rintro e w2 ⟨fv, rfl, hb2, hp2⟩
  have Hb2 := Lib.hid hb2
  have Hp2 := Lib.hid hp2
  clear hb2 hp2
  obtain ⟨kv, lbv, rfl, egv, hpv⟩ := Hp2.out
  have _u5 := egv
  have _u6 := hpv
  clear _u5 _u6 egv hpv
  go_wp2_with fail
  refine bodyPost_ret (v := .func (.func kv) #[] lbv) (by simp [results, Try.results96, go_sem]) rfl ?_
  exact ⟨_, rfl, Hb.out.trans (Hb2.out.mono Hb.out.size), by simpa [stemP] using Hp2.out⟩

set_option maxRecDepth 100000 in
set_option maxHeartbeats 3200000 in
theorem fork_chain {n0 rb cb N cc : Nat} {l : List Nd} {src : List (List Int)} {i : Nat} {w : World} (hr : rb < w.heap.size) (hc : cb < w.heap.size) {va : Value} {fa : PF} {ja : Nat} (hja : ja < i) (hFa : Fine l src ja fa) (hPa : Puller n0 rb cb N cc l src fa va w) {vb : Value} {fb : PF} {jb : Nat} (hjb : jb < i) (hFb : Fine l src jb fb) (hPb : Puller n0 rb cb N cc l src fb vb w) {xa xb n m : Int} {G : PF} (hG : G = forkP i ⟨7, xa, xb, n, m⟩ fa fb) :
    Calls Try.prog 97 #[.int .i64 7, .pointer (some ⟨cb, i * 6, none⟩), va, vb] w (Gives n0 rb cb N cc l src G w) := by
  subst hG
  obtain ⟨ka, lba, rfl, ega, hpa⟩ := hPa
  obtain ⟨kb, lbb, rfl, egb, hpb⟩ := hPb
  have hcall := c_chain (i := i) hr hc hja hFa ⟨ka, lba, rfl, ega, hpa⟩ hjb hFb ⟨kb, lbb, rfl, egb, hpb⟩
  have Hcall := Lib.hid hcall
  clear hcall ega hpa egb hpb hr hc hFa hFb
  go_enter Try.func97, Try.ntmps97
  go_wp2_with fail
  refine Hcall.out.mono ?_
  rintro e w2 ⟨fv, rfl, hb2, hp2⟩
  have Hb2 := Lib.hid hb2
  have Hp2 := Lib.hid hp2
  clear hb2 hp2
  obtain ⟨kv, lbv, rfl, egv, hpv⟩ := Hp2.out
  have _u5 := egv
  have _u6 := hpv
  clear _u5 _u6 egv hpv
  go_wp2_with fail
  refine bodyPost_ret (v := .func (.func kv) #[] lbv) (by simp [results, Try.results97, go_sem]) rfl ?_
  exact ⟨_, rfl, Hb2.out, by simpa [forkP] using Hp2.out⟩

set_option maxRecDepth 100000 in
set_option maxHeartbeats 3200000 in
theorem fork_zip {n0 rb cb N cc : Nat} {l : List Nd} {src : List (List Int)} {i : Nat} {w : World} (hr : rb < w.heap.size) (hc : cb < w.heap.size) {va : Value} {fa : PF} {ja : Nat} (hja : ja < i) (hFa : Fine l src ja fa) (hPa : Puller n0 rb cb N cc l src fa va w) {vb : Value} {fb : PF} {jb : Nat} (hjb : jb < i) (hFb : Fine l src jb fb) (hPb : Puller n0 rb cb N cc l src fb vb w) {xa xb n m : Int} {G : PF} (hG : G = forkP i ⟨8, xa, xb, n, m⟩ fa fb) :
    Calls Try.prog 97 #[.int .i64 8, .pointer (some ⟨cb, i * 6, none⟩), va, vb] w (Gives n0 rb cb N cc l src G w) := by
  subst hG
  obtain ⟨ka, lba, rfl, ega, hpa⟩ := hPa
  obtain ⟨kb, lbb, rfl, egb, hpb⟩ := hPb
  have hcall := c_zip (i := i) hr hc hja hFa ⟨ka, lba, rfl, ega, hpa⟩ hjb hFb ⟨kb, lbb, rfl, egb, hpb⟩
  have Hcall := Lib.hid hcall
  clear hcall ega hpa egb hpb hr hc hFa hFb
  go_enter Try.func97, Try.ntmps97
  go_wp2_with fail
  refine Hcall.out.mono ?_
  rintro e w2 ⟨fv, rfl, hb2, hp2⟩
  have Hb2 := Lib.hid hb2
  have Hp2 := Lib.hid hp2
  clear hb2 hp2
  obtain ⟨kv, lbv, rfl, egv, hpv⟩ := Hp2.out
  have _u5 := egv
  have _u6 := hpv
  clear _u5 _u6 egv hpv
  go_wp2_with fail
  refine bodyPost_ret (v := .func (.func kv) #[] lbv) (by simp [results, Try.results97, go_sem]) rfl ?_
  exact ⟨_, rfl, Hb2.out, by simpa [forkP] using Hp2.out⟩

set_option maxRecDepth 100000 in
set_option maxHeartbeats 3200000 in
theorem fork_merge {n0 rb cb N cc : Nat} {l : List Nd} {src : List (List Int)} {i : Nat} {w : World} (hr : rb < w.heap.size) (hc : cb < w.heap.size) {va : Value} {fa : PF} {ja : Nat} (hja : ja < i) (hFa : Fine l src ja fa) (hPa : Puller n0 rb cb N cc l src fa va w) {vb : Value} {fb : PF} {jb : Nat} (hjb : jb < i) (hFb : Fine l src jb fb) (hPb : Puller n0 rb cb N cc l src fb vb w) {xa xb n m : Int} (hx : l[i]? = some ⟨9, xa, xb, n, m⟩) {G : PF} (hG : G = forkP i ⟨9, xa, xb, n, m⟩ fa fb) :
    Calls Try.prog 97 #[.int .i64 9, .pointer (some ⟨cb, i * 6, none⟩), va, vb] w (Gives n0 rb cb N cc l src G w) := by
  subst hG
  obtain ⟨ka, lba, rfl, ega, hpa⟩ := hPa
  obtain ⟨kb, lbb, rfl, egb, hpb⟩ := hPb
  have hcall := c_merge (i := i) hr hc hja hFa ⟨ka, lba, rfl, ega, hpa⟩ hjb hFb ⟨kb, lbb, rfl, egb, hpb⟩ hx rfl
  have Hcall := Lib.hid hcall
  clear hcall ega hpa egb hpb hr hc hFa hFb
  go_enter Try.func97, Try.ntmps97
  go_wp2_with fail
  refine Hcall.out.mono ?_
  rintro e w2 ⟨fv, rfl, hb2, hp2⟩
  have Hb2 := Lib.hid hb2
  have Hp2 := Lib.hid hp2
  clear hb2 hp2
  obtain ⟨kv, lbv, rfl, egv, hpv⟩ := Hp2.out
  have _u5 := egv
  have _u6 := hpv
  clear _u5 _u6 egv hpv
  go_wp2_with fail
  refine bodyPost_ret (v := .func (.func kv) #[] lbv) (by simp [results, Try.results97, go_sem]) rfl ?_
  exact ⟨_, rfl, Hb2.out, by simpa [forkP] using Hp2.out⟩

set_option maxRecDepth 100000 in
set_option maxHeartbeats 3200000 in
theorem fork_turn {n0 rb cb N cc : Nat} {l : List Nd} {src : List (List Int)} {i : Nat} {w : World} (hr : rb < w.heap.size) (hc : cb < w.heap.size) {va : Value} {fa : PF} {ja : Nat} (hja : ja < i) (hFa : Fine l src ja fa) (hPa : Puller n0 rb cb N cc l src fa va w) {vb : Value} {fb : PF} {jb : Nat} (hjb : jb < i) (hFb : Fine l src jb fb) (hPb : Puller n0 rb cb N cc l src fb vb w) {xa xb n m : Int} (hx : l[i]? = some ⟨10, xa, xb, n, m⟩) {G : PF} (hG : G = forkP i ⟨10, xa, xb, n, m⟩ fa fb) :
    Calls Try.prog 97 #[.int .i64 10, .pointer (some ⟨cb, i * 6, none⟩), va, vb] w (Gives n0 rb cb N cc l src G w) := by
  subst hG
  obtain ⟨ka, lba, rfl, ega, hpa⟩ := hPa
  obtain ⟨kb, lbb, rfl, egb, hpb⟩ := hPb
  have hcall := c_turn (i := i) hr hc hja hFa ⟨ka, lba, rfl, ega, hpa⟩ hjb hFb ⟨kb, lbb, rfl, egb, hpb⟩ hx
  have Hcall := Lib.hid hcall
  clear hcall ega hpa egb hpb hr hc hFa hFb
  go_enter Try.func97, Try.ntmps97
  go_wp2_with fail
  refine Hcall.out.mono ?_
  rintro e w2 ⟨fv, rfl, hb2, hp2⟩
  have Hb2 := Lib.hid hb2
  have Hp2 := Lib.hid hp2
  clear hb2 hp2
  obtain ⟨kv, lbv, rfl, egv, hpv⟩ := Hp2.out
  have _u5 := egv
  have _u6 := hpv
  clear _u5 _u6 egv hpv
  go_wp2_with fail
  refine bodyPost_ret (v := .func (.func kv) #[] lbv) (by simp [results, Try.results97, go_sem]) rfl ?_
  exact ⟨_, rfl, Hb2.out, by simpa [forkP] using Hp2.out⟩


end Go.Proofs.Ythfniffecceldaa
