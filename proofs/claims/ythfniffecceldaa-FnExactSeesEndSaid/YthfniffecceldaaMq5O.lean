/- Texts on the program and its reference, put together (PiG). -/
import Derived.Test.YthfniffecceldaaMq5L
import Derived.Test.YthfniffecceldaaMq5M
import Derived.Test.YthfniffecceldaaMq5N
import Derived.Test.YthfniffecceldaaMq5K
/- Contracts: pulls by the program: the makers of pulls. -/
namespace Go.Proofs.Ythfniffecceldaa
open Go.RowKit

/-- A call gives a function value that pulls as G says, and writes nothing that was there. -/
def Gives (n0 rb cb N cc : Nat) (l : List Nd) (src : List (List Int)) (G : PF) (w : World) (e : Ending) (w' : World) : Prop :=
  ∃ fv, e = .returned fv ∧ Below w.heap.size w w' ∧ Puller n0 rb cb N cc l src G fv w'
theorem Bx.new {rb cb b : Nat} {w : World} {t : TypeId} {v : Value} (hb : b = w.heap.size) (hr : rb < w.heap.size) (hc : cb < w.heap.size) : Bx rb cb (w.alloc (.cells #[v] t)) b t v := by subst hb; exact ⟨Bk.new w t [v], by omega, by omega⟩
theorem Bx.allc {rb cb b : Nat} {w : World} {t : TypeId} {v : Value} (h : Bx rb cb w b t v) (o : Obj) : Bx rb cb (w.alloc o) b t v := ⟨h.bk.alloc o, h.nr, h.nc⟩
theorem below1 (w : World) (o1 : Obj) : Below w.heap.size w (w.alloc o1) := (Below.refl _ _).alloc (Nat.le_refl _) _
theorem below2 (w : World) (o1 o2 : Obj) : Below w.heap.size w ((w.alloc o1).alloc o2) := (below1 w o1).alloc (by simp) _
theorem below3 (w : World) (o1 o2 o3 : Obj) : Below w.heap.size w (((w.alloc o1).alloc o2).alloc o3) := (below2 w o1 o2).alloc (by simp; omega) _
theorem below4 (w : World) (o1 o2 o3 o4 : Obj) : Below w.heap.size w ((((w.alloc o1).alloc o2).alloc o3).alloc o4) := (below3 w o1 o2 o3).alloc (by simp; omega) _
theorem Changes.fr {n0 rb cb N cc : Nat} {l : List Nd} {src : List (List Int)} {i : Nat} {g : Int → Cl → Cl × Int} {gv : Value} {w w' : World} (h : Changes n0 rb cb N cc l src i g gv w) (hf : Fr n0 rb cb w w') : Changes n0 rb cb N cc l src i g gv w' := by
  obtain ⟨k, lb, e, hg, hp⟩ := h
  exact ⟨k, lb, e, hg, fun fe s W v h1 => hp fe s W v (hf.tfi h1)⟩
theorem Lets.fr {n0 rb cb N cc : Nat} {l : List Nd} {src : List (List Int)} {i : Nat} {g : Int → Cl → Cl × Bool} {gv : Value} {w w' : World} (h : Lets n0 rb cb N cc l src i g gv w) (hf : Fr n0 rb cb w w') : Lets n0 rb cb N cc l src i g gv w' := by
  obtain ⟨k, lb, e, hg, hp⟩ := h
  exact ⟨k, lb, e, hg, fun fe s W v h1 => hp fe s W v (hf.tfi h1)⟩

set_option maxRecDepth 100000 in
set_option maxHeartbeats 3200000 in
theorem c_chain {n0 rb cb N cc : Nat} {l : List Nd} {src : List (List Int)} {i : Nat} {w : World} (hr : rb < w.heap.size) (hc : cb < w.heap.size) {va : Value} {fa : PF} {ja : Nat} (hja : ja < i) (hFa : Fine l src ja fa) (hPa : Puller n0 rb cb N cc l src fa va w) {vb : Value} {fb : PF} {jb : Nat} (hjb : jb < i) (hFb : Fine l src jb fb) (hPb : Puller n0 rb cb N cc l src fb vb w) :
    Calls Try.prog 113 #[va, vb] w (Gives n0 rb cb N cc l src (chainP fa fb) w) := by
  obtain ⟨ka, lba, rfl, ega, hpa⟩ := hPa
  have Pua : Hid (Puller n0 rb cb N cc l src fa (.func (.func ka) #[] lba) w) := Lib.hid ⟨ka, lba, rfl, ega, hpa⟩
  clear ega hpa
  obtain ⟨kb, lbb, rfl, egb, hpb⟩ := hPb
  have Pub : Hid (Puller n0 rb cb N cc l src fb (.func (.func kb) #[] lbb) w) := Lib.hid ⟨kb, lbb, rfl, egb, hpb⟩
  clear egb hpb
  have Hr := Lib.hid hr
  have Hc := Lib.hid hc
  clear hr hc
  go_enter Try.func113, Try.ntmps113
  go_wp2_with fail
  refine bodyPost_ret (v := .func (.func 124) #[] #[.pointer (some ⟨w.heap.size, 0, none⟩), .pointer (some ⟨w.heap.size + 1, 0, none⟩)]) (by simp [results, Try.results113, go_sem]) rfl ?_
  have hf : Fr n0 rb cb w ((w.alloc (.cells #[.func (.func ka) #[] lba] 114)).alloc (.cells #[.func (.func kb) #[] lbb] 114)) := Fr.of_below (below2 w _ _)
  have bxa : Bx rb cb (w.alloc (.cells #[.func (.func ka) #[] lba] 114)) (w.heap.size) 114 (.func (.func ka) #[] lba) := Bx.new (by simp) (by have := Hr.out; simp; omega) (by have := Hc.out; simp; omega)
  have bxb : Bx rb cb ((w.alloc (.cells #[.func (.func ka) #[] lba] 114)).alloc (.cells #[.func (.func kb) #[] lbb] 114)) (w.heap.size + 1) 114 (.func (.func kb) #[] lbb) := Bx.new (by simp) (by have := Hr.out; simp; omega) (by have := Hc.out; simp; omega)
  exact ⟨_, rfl, below2 w _ _, _, _, rfl, enters_of Try.func124 (by kernel_rfl) rfl, i_chain hja hFa (Pua.out.fr hf) hjb hFb (Pub.out.fr hf) (bxa.allc _) bxb⟩

set_option maxRecDepth 100000 in
set_option maxHeartbeats 3200000 in
theorem c_zip {n0 rb cb N cc : Nat} {l : List Nd} {src : List (List Int)} {i : Nat} {w : World} (hr : rb < w.heap.size) (hc : cb < w.heap.size) {va : Value} {fa : PF} {ja : Nat} (hja : ja < i) (hFa : Fine l src ja fa) (hPa : Puller n0 rb cb N cc l src fa va w) {vb : Value} {fb : PF} {jb : Nat} (hjb : jb < i) (hFb : Fine l src jb fb) (hPb : Puller n0 rb cb N cc l src fb vb w) :
    Calls Try.prog 114 #[va, vb] w (Gives n0 rb cb N cc l src (zipP fa fb) w) := by
  obtain ⟨ka, lba, rfl, ega, hpa⟩ := hPa
  have Pua : Hid (Puller n0 rb cb N cc l src fa (.func (.func ka) #[] lba) w) := Lib.hid ⟨ka, lba, rfl, ega, hpa⟩
  clear ega hpa
  obtain ⟨kb, lbb, rfl, egb, hpb⟩ := hPb
  have Pub : Hid (Puller n0 rb cb N cc l src fb (.func (.func kb) #[] lbb) w) := Lib.hid ⟨kb, lbb, rfl, egb, hpb⟩
  clear egb hpb
  have Hr := Lib.hid hr
  have Hc := Lib.hid hc
  clear hr hc
  go_enter Try.func114, Try.ntmps114
  go_wp2_with fail
  refine bodyPost_ret (v := .func (.func 125) #[] #[.pointer (some ⟨w.heap.size, 0, none⟩), .pointer (some ⟨w.heap.size + 1, 0, none⟩)]) (by simp [results, Try.results114, go_sem]) rfl ?_
  have hf : Fr n0 rb cb w ((w.alloc (.cells #[.func (.func ka) #[] lba] 114)).alloc (.cells #[.func (.func kb) #[] lbb] 114)) := Fr.of_below (below2 w _ _)
  have bxa : Bx rb cb (w.alloc (.cells #[.func (.func ka) #[] lba] 114)) (w.heap.size) 114 (.func (.func ka) #[] lba) := Bx.new (by simp) (by have := Hr.out; simp; omega) (by have := Hc.out; simp; omega)
  have bxb : Bx rb cb ((w.alloc (.cells #[.func (.func ka) #[] lba] 114)).alloc (.cells #[.func (.func kb) #[] lbb] 114)) (w.heap.size + 1) 114 (.func (.func kb) #[] lbb) := Bx.new (by simp) (by have := Hr.out; simp; omega) (by have := Hc.out; simp; omega)
  exact ⟨_, rfl, below2 w _ _, _, _, rfl, enters_of Try.func125 (by kernel_rfl) rfl, i_zip hja hFa (Pua.out.fr hf) hjb hFb (Pub.out.fr hf) (bxa.allc _) bxb⟩

set_option maxRecDepth 100000 in
set_option maxHeartbeats 3200000 in
theorem c_merge {n0 rb cb N cc : Nat} {l : List Nd} {src : List (List Int)} {i : Nat} {w : World} (hr : rb < w.heap.size) (hc : cb < w.heap.size) {va : Value} {fa : PF} {ja : Nat} (hja : ja < i) (hFa : Fine l src ja fa) (hPa : Puller n0 rb cb N cc l src fa va w) {vb : Value} {fb : PF} {jb : Nat} (hjb : jb < i) (hFb : Fine l src jb fb) (hPb : Puller n0 rb cb N cc l src fb vb w) {x : Nd} (hx : l[i]? = some x) (hk9 : x.k = 9) :
    Calls Try.prog 115 #[.pointer (some ⟨cb, i * 6, none⟩), va, vb] w (Gives n0 rb cb N cc l src (mergeP i fa fb) w) := by
  obtain ⟨ka, lba, rfl, ega, hpa⟩ := hPa
  have Pua : Hid (Puller n0 rb cb N cc l src fa (.func (.func ka) #[] lba) w) := Lib.hid ⟨ka, lba, rfl, ega, hpa⟩
  clear ega hpa
  obtain ⟨kb, lbb, rfl, egb, hpb⟩ := hPb
  have Pub : Hid (Puller n0 rb cb N cc l src fb (.func (.func kb) #[] lbb) w) := Lib.hid ⟨kb, lbb, rfl, egb, hpb⟩
  clear egb hpb
  have Hr := Lib.hid hr
  have Hc := Lib.hid hc
  clear hr hc
  go_enter Try.func115, Try.ntmps115
  go_wp2_with fail
  refine bodyPost_ret (v := .func (.func 126) #[] #[.pointer (some ⟨w.heap.size, 0, none⟩), .pointer (some ⟨w.heap.size + 1, 0, none⟩), .pointer (some ⟨w.heap.size + 2, 0, none⟩)]) (by simp [results, Try.results115, go_sem]) rfl ?_
  have hf : Fr n0 rb cb w (((w.alloc (.cells #[.pointer (some ⟨cb, i * 6, none⟩)] 122)).alloc (.cells #[.func (.func ka) #[] lba] 114)).alloc (.cells #[.func (.func kb) #[] lbb] 114)) := Fr.of_below (below3 w _ _ _)
  have bxc : Bx rb cb (w.alloc (.cells #[.pointer (some ⟨cb, i * 6, none⟩)] 122)) (w.heap.size) 122 (.pointer (some ⟨cb, i * 6, none⟩)) := Bx.new (by simp) (by have := Hr.out; simp; omega) (by have := Hc.out; simp; omega)
  have bxa : Bx rb cb ((w.alloc (.cells #[.pointer (some ⟨cb, i * 6, none⟩)] 122)).alloc (.cells #[.func (.func ka) #[] lba] 114)) (w.heap.size + 1) 114 (.func (.func ka) #[] lba) := Bx.new (by simp) (by have := Hr.out; simp; omega) (by have := Hc.out; simp; omega)
  have bxb : Bx rb cb (((w.alloc (.cells #[.pointer (some ⟨cb, i * 6, none⟩)] 122)).alloc (.cells #[.func (.func ka) #[] lba] 114)).alloc (.cells #[.func (.func kb) #[] lbb] 114)) (w.heap.size + 2) 114 (.func (.func kb) #[] lbb) := Bx.new (by simp) (by have := Hr.out; simp; omega) (by have := Hc.out; simp; omega)
  exact ⟨_, rfl, below3 w _ _ _, _, _, rfl, enters_of Try.func126 (by kernel_rfl) rfl, i_merge hja hFa (Pua.out.fr hf) hjb hFb (Pub.out.fr hf) ((bxc.allc _).allc _) (bxa.allc _) bxb hx hk9⟩

set_option maxRecDepth 100000 in
set_option maxHeartbeats 3200000 in
theorem c_turn {n0 rb cb N cc : Nat} {l : List Nd} {src : List (List Int)} {i : Nat} {w : World} (hr : rb < w.heap.size) (hc : cb < w.heap.size) {va : Value} {fa : PF} {ja : Nat} (hja : ja < i) (hFa : Fine l src ja fa) (hPa : Puller n0 rb cb N cc l src fa va w) {vb : Value} {fb : PF} {jb : Nat} (hjb : jb < i) (hFb : Fine l src jb fb) (hPb : Puller n0 rb cb N cc l src fb vb w) {xa xb n m : Int} (hx : l[i]? = some ⟨10, xa, xb, n, m⟩) :
    Calls Try.prog 116 #[.pointer (some ⟨cb, i * 6, none⟩), va, vb] w (Gives n0 rb cb N cc l src (turnP i fa fb) w) := by
  obtain ⟨ka, lba, rfl, ega, hpa⟩ := hPa
  have Pua : Hid (Puller n0 rb cb N cc l src fa (.func (.func ka) #[] lba) w) := Lib.hid ⟨ka, lba, rfl, ega, hpa⟩
  clear ega hpa
  obtain ⟨kb, lbb, rfl, egb, hpb⟩ := hPb
  have Pub : Hid (Puller n0 rb cb N cc l src fb (.func (.func kb) #[] lbb) w) := Lib.hid ⟨kb, lbb, rfl, egb, hpb⟩
  clear egb hpb
  have Hr := Lib.hid hr
  have Hc := Lib.hid hc
  clear hr hc
  go_enter Try.func116, Try.ntmps116
  go_wp2_with fail
  refine bodyPost_ret (v := .func (.func 127) #[] #[.pointer (some ⟨w.heap.size + 1, 0, none⟩), .pointer (some ⟨w.heap.size + 2, 0, none⟩), .pointer (some ⟨w.heap.size, 0, none⟩)]) (by simp [results, Try.results116, go_sem]) rfl ?_
  have hf : Fr n0 rb cb w (((w.alloc (.cells #[.pointer (some ⟨cb, i * 6, none⟩)] 122)).alloc (.cells #[.func (.func ka) #[] lba] 114)).alloc (.cells #[.func (.func kb) #[] lbb] 114)) := Fr.of_below (below3 w _ _ _)
  have bxc : Bx rb cb (w.alloc (.cells #[.pointer (some ⟨cb, i * 6, none⟩)] 122)) (w.heap.size) 122 (.pointer (some ⟨cb, i * 6, none⟩)) := Bx.new (by simp) (by have := Hr.out; simp; omega) (by have := Hc.out; simp; omega)
  have bxa : Bx rb cb ((w.alloc (.cells #[.pointer (some ⟨cb, i * 6, none⟩)] 122)).alloc (.cells #[.func (.func ka) #[] lba] 114)) (w.heap.size + 1) 114 (.func (.func ka) #[] lba) := Bx.new (by simp) (by have := Hr.out; simp; omega) (by have := Hc.out; simp; omega)
  have bxb : Bx rb cb (((w.alloc (.cells #[.pointer (some ⟨cb, i * 6, none⟩)] 122)).alloc (.cells #[.func (.func ka) #[] lba] 114)).alloc (.cells #[.func (.func kb) #[] lbb] 114)) (w.heap.size + 2) 114 (.func (.func kb) #[] lbb) := Bx.new (by simp) (by have := Hr.out; simp; omega) (by have := Hc.out; simp; omega)
  exact ⟨_, rfl, below3 w _ _ _, _, _, rfl, enters_of Try.func127 (by kernel_rfl) rfl, i_turn hja hFa (Pua.out.fr hf) hjb hFb (Pub.out.fr hf) (bxa.allc _) bxb ((bxc.allc _).allc _) hx⟩

set_option maxRecDepth 100000 in
set_option maxHeartbeats 3200000 in
theorem c_take {n0 rb cb N cc : Nat} {l : List Nd} {src : List (List Int)} {i : Nat} {w : World} (hr : rb < w.heap.size) (hc : cb < w.heap.size) {n : Int} {va : Value} {fa : PF} {ja : Nat} (hja : ja < i) (hFa : Fine l src ja fa) (hPa : Puller n0 rb cb N cc l src fa va w) {xa xb m : Int} (hx : l[i]? = some ⟨3, xa, xb, n, m⟩) (hn30 : 0 ≤ n ∧ n ≤ 30) :
    Calls Try.prog 109 #[.int .i64 n, .pointer (some ⟨cb, i * 6, none⟩), va] w (Gives n0 rb cb N cc l src (takeP i n fa) w) := by
  obtain ⟨ka, lba, rfl, ega, hpa⟩ := hPa
  have Pua : Hid (Puller n0 rb cb N cc l src fa (.func (.func ka) #[] lba) w) := Lib.hid ⟨ka, lba, rfl, ega, hpa⟩
  clear ega hpa
  have Hr := Lib.hid hr
  have Hc := Lib.hid hc
  clear hr hc
  go_enter Try.func109, Try.ntmps109
  go_wp2_with fail
  refine bodyPost_ret (v := .func (.func 120) #[] #[.pointer (some ⟨w.heap.size + 1, 0, none⟩), .pointer (some ⟨w.heap.size, 0, none⟩), .pointer (some ⟨w.heap.size + 2, 0, none⟩)]) (by simp [results, Try.results109, go_sem]) rfl ?_
  have hf : Fr n0 rb cb w (((w.alloc (.cells #[.int .i64 n] 3)).alloc (.cells #[.pointer (some ⟨cb, i * 6, none⟩)] 122)).alloc (.cells #[.func (.func ka) #[] lba] 114)) := Fr.of_below (below3 w _ _ _)
  have bxn : Bx rb cb (w.alloc (.cells #[.int .i64 n] 3)) (w.heap.size) 3 (.int .i64 n) := Bx.new (by simp) (by have := Hr.out; simp; omega) (by have := Hc.out; simp; omega)
  have bxc : Bx rb cb ((w.alloc (.cells #[.int .i64 n] 3)).alloc (.cells #[.pointer (some ⟨cb, i * 6, none⟩)] 122)) (w.heap.size + 1) 122 (.pointer (some ⟨cb, i * 6, none⟩)) := Bx.new (by simp) (by have := Hr.out; simp; omega) (by have := Hc.out; simp; omega)
  have bxa : Bx rb cb (((w.alloc (.cells #[.int .i64 n] 3)).alloc (.cells #[.pointer (some ⟨cb, i * 6, none⟩)] 122)).alloc (.cells #[.func (.func ka) #[] lba] 114)) (w.heap.size + 2) 114 (.func (.func ka) #[] lba) := Bx.new (by simp) (by have := Hr.out; simp; omega) (by have := Hc.out; simp; omega)
  exact ⟨_, rfl, below3 w _ _ _, _, _, rfl, enters_of Try.func120 (by kernel_rfl) rfl, i_take hja hFa (Pua.out.fr hf) (bxc.allc _) ((bxn.allc _).allc _) bxa hx hn30⟩

set_option maxRecDepth 100000 in
set_option maxHeartbeats 3200000 in
theorem c_drop {n0 rb cb N cc : Nat} {l : List Nd} {src : List (List Int)} {i : Nat} {w : World} (hr : rb < w.heap.size) (hc : cb < w.heap.size) {n : Int} {va : Value} {fa : PF} {ja : Nat} (hja : ja < i) (hFa : Fine l src ja fa) (hPa : Puller n0 rb cb N cc l src fa va w) {xa xb m : Int} (hx : l[i]? = some ⟨4, xa, xb, n, m⟩) (hn30 : 0 ≤ n ∧ n ≤ 30) :
    Calls Try.prog 110 #[.int .i64 n, .pointer (some ⟨cb, i * 6, none⟩), va] w (Gives n0 rb cb N cc l src (dropP i n fa) w) := by
  obtain ⟨ka, lba, rfl, ega, hpa⟩ := hPa
  have Pua : Hid (Puller n0 rb cb N cc l src fa (.func (.func ka) #[] lba) w) := Lib.hid ⟨ka, lba, rfl, ega, hpa⟩
  clear ega hpa
  have Hr := Lib.hid hr
  have Hc := Lib.hid hc
  clear hr hc
  go_enter Try.func110, Try.ntmps110
  go_wp2_with fail
  refine bodyPost_ret (v := .func (.func 121) #[] #[.pointer (some ⟨w.heap.size + 1, 0, none⟩), .pointer (some ⟨w.heap.size, 0, none⟩), .pointer (some ⟨w.heap.size + 2, 0, none⟩)]) (by simp [results, Try.results110, go_sem]) rfl ?_
  have hf : Fr n0 rb cb w (((w.alloc (.cells #[.int .i64 n] 3)).alloc (.cells #[.pointer (some ⟨cb, i * 6, none⟩)] 122)).alloc (.cells #[.func (.func ka) #[] lba] 114)) := Fr.of_below (below3 w _ _ _)
  have bxn : Bx rb cb (w.alloc (.cells #[.int .i64 n] 3)) (w.heap.size) 3 (.int .i64 n) := Bx.new (by simp) (by have := Hr.out; simp; omega) (by have := Hc.out; simp; omega)
  have bxc : Bx rb cb ((w.alloc (.cells #[.int .i64 n] 3)).alloc (.cells #[.pointer (some ⟨cb, i * 6, none⟩)] 122)) (w.heap.size + 1) 122 (.pointer (some ⟨cb, i * 6, none⟩)) := Bx.new (by simp) (by have := Hr.out; simp; omega) (by have := Hc.out; simp; omega)
  have bxa : Bx rb cb (((w.alloc (.cells #[.int .i64 n] 3)).alloc (.cells #[.pointer (some ⟨cb, i * 6, none⟩)] 122)).alloc (.cells #[.func (.func ka) #[] lba] 114)) (w.heap.size + 2) 114 (.func (.func ka) #[] lba) := Bx.new (by simp) (by have := Hr.out; simp; omega) (by have := Hc.out; simp; omega)
  exact ⟨_, rfl, below3 w _ _ _, _, _, rfl, enters_of Try.func121 (by kernel_rfl) rfl, i_drop hja hFa (Pua.out.fr hf) (bxc.allc _) ((bxn.allc _).allc _) bxa hx hn30⟩

set_option maxRecDepth 100000 in
set_option maxHeartbeats 3200000 in
theorem c_while {n0 rb cb N cc : Nat} {l : List Nd} {src : List (List Int)} {i : Nat} {w : World} (hr : rb < w.heap.size) (hc : cb < w.heap.size) {n : Int} {va : Value} {fa : PF} {ja : Nat} (hja : ja < i) (hFa : Fine l src ja fa) (hPa : Puller n0 rb cb N cc l src fa va w) :
    Calls Try.prog 111 #[.int .i64 n, va] w (Gives n0 rb cb N cc l src (whileP n fa) w) := by
  obtain ⟨ka, lba, rfl, ega, hpa⟩ := hPa
  have Pua : Hid (Puller n0 rb cb N cc l src fa (.func (.func ka) #[] lba) w) := Lib.hid ⟨ka, lba, rfl, ega, hpa⟩
  clear ega hpa
  have Hr := Lib.hid hr
  have Hc := Lib.hid hc
  clear hr hc
  go_enter Try.func111, Try.ntmps111
  go_wp2_with fail
  refine bodyPost_ret (v := .func (.func 122) #[] #[.pointer (some ⟨w.heap.size + 1, 0, none⟩), .pointer (some ⟨w.heap.size, 0, none⟩)]) (by simp [results, Try.results111, go_sem]) rfl ?_
  have hf : Fr n0 rb cb w ((w.alloc (.cells #[.int .i64 n] 3)).alloc (.cells #[.func (.func ka) #[] lba] 114)) := Fr.of_below (below2 w _ _)
  have bxn : Bx rb cb (w.alloc (.cells #[.int .i64 n] 3)) (w.heap.size) 3 (.int .i64 n) := Bx.new (by simp) (by have := Hr.out; simp; omega) (by have := Hc.out; simp; omega)
  have bxa : Bx rb cb ((w.alloc (.cells #[.int .i64 n] 3)).alloc (.cells #[.func (.func ka) #[] lba] 114)) (w.heap.size + 1) 114 (.func (.func ka) #[] lba) := Bx.new (by simp) (by have := Hr.out; simp; omega) (by have := Hc.out; simp; omega)
  exact ⟨_, rfl, below2 w _ _, _, _, rfl, enters_of Try.func122 (by kernel_rfl) rfl, i_while hja hFa (Pua.out.fr hf) bxa (bxn.allc _)⟩

set_option maxRecDepth 100000 in
set_option maxHeartbeats 3200000 in
theorem c_batch {n0 rb cb N cc : Nat} {l : List Nd} {src : List (List Int)} {w : World} (hr : rb < w.heap.size) (hc : cb < w.heap.size) {n : Int} {va : Value} {fa : PF} {ja : Nat} (hFa : Fine l src ja fa) (hPa : Puller n0 rb cb N cc l src fa va w) (hn : 1 ≤ n ∧ n ≤ 30) :
    Calls Try.prog 112 #[.int .i64 n, va] w (Gives n0 rb cb N cc l src (batchP n fa) w) := by
  obtain ⟨ka, lba, rfl, ega, hpa⟩ := hPa
  have Pua : Hid (Puller n0 rb cb N cc l src fa (.func (.func ka) #[] lba) w) := Lib.hid ⟨ka, lba, rfl, ega, hpa⟩
  clear ega hpa
  have Hr := Lib.hid hr
  have Hc := Lib.hid hc
  clear hr hc
  go_enter Try.func112, Try.ntmps112
  go_wp2_with fail
  refine bodyPost_ret (v := .func (.func 123) #[] #[.pointer (some ⟨w.heap.size + 1, 0, none⟩), .pointer (some ⟨w.heap.size, 0, none⟩)]) (by simp [results, Try.results112, go_sem]) rfl ?_
  have hf : Fr n0 rb cb w ((w.alloc (.cells #[.int .i64 n] 3)).alloc (.cells #[.func (.func ka) #[] lba] 114)) := Fr.of_below (below2 w _ _)
  have bxn : Bx rb cb (w.alloc (.cells #[.int .i64 n] 3)) (w.heap.size) 3 (.int .i64 n) := Bx.new (by simp) (by have := Hr.out; simp; omega) (by have := Hc.out; simp; omega)
  have bxa : Bx rb cb ((w.alloc (.cells #[.int .i64 n] 3)).alloc (.cells #[.func (.func ka) #[] lba] 114)) (w.heap.size + 1) 114 (.func (.func ka) #[] lba) := Bx.new (by simp) (by have := Hr.out; simp; omega) (by have := Hc.out; simp; omega)
  exact ⟨_, rfl, below2 w _ _, _, _, rfl, enters_of Try.func123 (by kernel_rfl) rfl, i_batch hFa (Pua.out.fr hf) bxa (bxn.allc _) hn⟩

set_option maxRecDepth 100000 in
set_option maxHeartbeats 3200000 in
theorem c_chg {n0 rb cb N cc : Nat} {l : List Nd} {src : List (List Int)} {i : Nat} {w : World} (hr : rb < w.heap.size) (hc : cb < w.heap.size) {va : Value} {fa : PF} {ja : Nat} (hja : ja < i) (hFa : Fine l src ja fa) (hPa : Puller n0 rb cb N cc l src fa va w) {vg : Value} {g : Int → Cl → Cl × Int} (hCg : Changes n0 rb cb N cc l src i g vg w) :
    Calls Try.prog 101 #[va, vg] w (Gives n0 rb cb N cc l src (chgP i g fa) w) := by
  obtain ⟨ka, lba, rfl, ega, hpa⟩ := hPa
  have Pua : Hid (Puller n0 rb cb N cc l src fa (.func (.func ka) #[] lba) w) := Lib.hid ⟨ka, lba, rfl, ega, hpa⟩
  clear ega hpa
  obtain ⟨kg, lbg, rfl, egg, hpg⟩ := hCg
  have Cog := Lib.hid (show Changes n0 rb cb N cc l src i g (.func (.func kg) #[] lbg) w from ⟨kg, lbg, rfl, egg, hpg⟩)
  clear egg hpg
  have Hr := Lib.hid hr
  have Hc := Lib.hid hc
  clear hr hc
  go_enter Try.func101, Try.ntmps101
  go_wp2_with fail
  refine bodyPost_ret (v := .func (.func 118) #[] #[.pointer (some ⟨w.heap.size, 0, none⟩), .pointer (some ⟨w.heap.size + 1, 0, none⟩)]) (by simp [results, Try.results101, go_sem]) rfl ?_
  have hf : Fr n0 rb cb w ((w.alloc (.cells #[.func (.func ka) #[] lba] 114)).alloc (.cells #[.func (.func kg) #[] lbg] 119)) := Fr.of_below (below2 w _ _)
  have bxa : Bx rb cb (w.alloc (.cells #[.func (.func ka) #[] lba] 114)) (w.heap.size) 114 (.func (.func ka) #[] lba) := Bx.new (by simp) (by have := Hr.out; simp; omega) (by have := Hc.out; simp; omega)
  have bxg : Bx rb cb ((w.alloc (.cells #[.func (.func ka) #[] lba] 114)).alloc (.cells #[.func (.func kg) #[] lbg] 119)) (w.heap.size + 1) 119 (.func (.func kg) #[] lbg) := Bx.new (by simp) (by have := Hr.out; simp; omega) (by have := Hc.out; simp; omega)
  exact ⟨_, rfl, below2 w _ _, _, _, rfl, enters_of Try.func118 (by kernel_rfl) rfl, i_chg hja hFa (Pua.out.fr hf) (bxa.allc _) bxg (Cog.out.fr hf)⟩

set_option maxRecDepth 100000 in
set_option maxHeartbeats 3200000 in
theorem c_some {n0 rb cb N cc : Nat} {l : List Nd} {src : List (List Int)} {i : Nat} {w : World} (hr : rb < w.heap.size) (hc : cb < w.heap.size) {va : Value} {fa : PF} {ja : Nat} (hja : ja < i) (hFa : Fine l src ja fa) (hPa : Puller n0 rb cb N cc l src fa va w) {vg : Value} {may : Int → Cl → Cl × Bool} (hCg : Lets n0 rb cb N cc l src i may vg w) {x : Nd} (hx : l[i]? = some x) (hk : x.k ≠ 0 ∧ x.k ≠ 9) (hg : ∀ v c, (0 ≤ v ∧ v ≤ 99) → CellIn src x c → CellIn src x (may v c).1) :
    Calls Try.prog 105 #[va, vg] w (Gives n0 rb cb N cc l src (fun s => someL i may fa (s.M l src + 1) s) w) := by
  obtain ⟨ka, lba, rfl, ega, hpa⟩ := hPa
  have Pua : Hid (Puller n0 rb cb N cc l src fa (.func (.func ka) #[] lba) w) := Lib.hid ⟨ka, lba, rfl, ega, hpa⟩
  clear ega hpa
  obtain ⟨kg, lbg, rfl, egg, hpg⟩ := hCg
  have Cog := Lib.hid (show Lets n0 rb cb N cc l src i may (.func (.func kg) #[] lbg) w from ⟨kg, lbg, rfl, egg, hpg⟩)
  clear egg hpg
  have Hr := Lib.hid hr
  have Hc := Lib.hid hc
  clear hr hc
  go_enter Try.func105, Try.ntmps105
  go_wp2_with fail
  refine bodyPost_ret (v := .func (.func 119) #[] #[.pointer (some ⟨w.heap.size, 0, none⟩), .pointer (some ⟨w.heap.size + 1, 0, none⟩)]) (by simp [results, Try.results105, go_sem]) rfl ?_
  have hf : Fr n0 rb cb w ((w.alloc (.cells #[.func (.func ka) #[] lba] 114)).alloc (.cells #[.func (.func kg) #[] lbg] 103)) := Fr.of_below (below2 w _ _)
  have bxa : Bx rb cb (w.alloc (.cells #[.func (.func ka) #[] lba] 114)) (w.heap.size) 114 (.func (.func ka) #[] lba) := Bx.new (by simp) (by have := Hr.out; simp; omega) (by have := Hc.out; simp; omega)
  have bxg : Bx rb cb ((w.alloc (.cells #[.func (.func ka) #[] lba] 114)).alloc (.cells #[.func (.func kg) #[] lbg] 103)) (w.heap.size + 1) 103 (.func (.func kg) #[] lbg) := Bx.new (by simp) (by have := Hr.out; simp; omega) (by have := Hc.out; simp; omega)
  exact ⟨_, rfl, below2 w _ _, _, _, rfl, enters_of Try.func119 (by kernel_rfl) rfl, i_some hja hFa (Pua.out.fr hf) (bxa.allc _) bxg hx hk hg (Cog.out.fr hf)⟩

set_option maxRecDepth 100000 in
set_option maxHeartbeats 3200000 in
theorem c_done {n0 rb cb N cc : Nat} {l : List Nd} {src : List (List Int)} {i : Nat} {w : World} (hr : rb < w.heap.size) (hc : cb < w.heap.size) {va : Value} {fa : PF} (hFa : KeepB l src i fa) (hPa : Puller n0 rb cb N cc l src fa va w) (hil : i < l.length) :
    Calls Try.prog 94 #[.pointer (some ⟨cb, i * 6, none⟩), va] w (Gives n0 rb cb N cc l src (doneP i fa) w) := by
  obtain ⟨ka, lba, rfl, ega, hpa⟩ := hPa
  have Pua : Hid (Puller n0 rb cb N cc l src fa (.func (.func ka) #[] lba) w) := Lib.hid ⟨ka, lba, rfl, ega, hpa⟩
  clear ega hpa
  have Hr := Lib.hid hr
  have Hc := Lib.hid hc
  clear hr hc
  go_enter Try.func94, Try.ntmps94
  go_wp2_with fail
  refine bodyPost_ret (v := .func (.func 99) #[] #[.pointer (some ⟨w.heap.size, 0, none⟩), .pointer (some ⟨w.heap.size + 1, 0, none⟩)]) (by simp [results, Try.results94, go_sem]) rfl ?_
  have hf : Fr n0 rb cb w ((w.alloc (.cells #[.pointer (some ⟨cb, i * 6, none⟩)] 122)).alloc (.cells #[.func (.func ka) #[] lba] 114)) := Fr.of_below (below2 w _ _)
  have bxc : Bx rb cb (w.alloc (.cells #[.pointer (some ⟨cb, i * 6, none⟩)] 122)) (w.heap.size) 122 (.pointer (some ⟨cb, i * 6, none⟩)) := Bx.new (by simp) (by have := Hr.out; simp; omega) (by have := Hc.out; simp; omega)
  have bxa : Bx rb cb ((w.alloc (.cells #[.pointer (some ⟨cb, i * 6, none⟩)] 122)).alloc (.cells #[.func (.func ka) #[] lba] 114)) (w.heap.size + 1) 114 (.func (.func ka) #[] lba) := Bx.new (by simp) (by have := Hr.out; simp; omega) (by have := Hc.out; simp; omega)
  exact ⟨_, rfl, below2 w _ _, _, _, rfl, enters_of Try.func99 (by kernel_rfl) rfl, i_done hFa (Pua.out.fr hf) (bxc.allc _) bxa hil⟩

set_option maxRecDepth 100000 in
set_option maxHeartbeats 3200000 in
theorem c_source {n0 rb cb N cc : Nat} {l : List Nd} {src : List (List Int)} {i : Nat} {w : World} (hr : rb < w.heap.size) (hc : cb < w.heap.size) {Ar : Option Addr} {cr k : Nat} {row : List Int} {x : Nd} (hx : l[i]? = some x) (hk0 : x.k = 0) (hk : x.n = (k : Int)) (hrow : src[k]? = some row) (hrl : row.length ≤ 12) (hrd : RdI w n0 Ar row) (hz1 : n0 ≤ w.heap.size) :
    Calls Try.prog 95 #[.pointer (some ⟨rb, 0, none⟩), .int .i64 (k : Int), .slice Ar row.length cr, .pointer (some ⟨cb, i * 6, none⟩)] w (Gives n0 rb cb N cc l src (srcP src i x) w) := by
  have Hr := Lib.hid hr
  have Hc := Lib.hid hc
  clear hr hc
  go_enter Try.func95, Try.ntmps95
  go_wp2_with fail
  refine bodyPost_ret (v := .func (.func 100) #[] #[.pointer (some ⟨w.heap.size + 3, 0, none⟩), .pointer (some ⟨w.heap.size + 2, 0, none⟩), .pointer (some ⟨w.heap.size, 0, none⟩), .pointer (some ⟨w.heap.size + 1, 0, none⟩)]) (by simp [results, Try.results95, go_sem]) rfl ?_
  have hf : Fr n0 rb cb w ((((w.alloc (.cells #[.pointer (some ⟨rb, 0, none⟩)] 75)).alloc (.cells #[.int .i64 (k : Int)] 3)).alloc (.cells #[.slice Ar row.length cr] 23)).alloc (.cells #[.pointer (some ⟨cb, i * 6, none⟩)] 122)) := Fr.of_below (below4 w _ _ _ _)
  have bxr : Bx rb cb (w.alloc (.cells #[.pointer (some ⟨rb, 0, none⟩)] 75)) (w.heap.size) 75 (.pointer (some ⟨rb, 0, none⟩)) := Bx.new (by simp) (by have := Hr.out; simp; omega) (by have := Hc.out; simp; omega)
  have bxn : Bx rb cb ((w.alloc (.cells #[.pointer (some ⟨rb, 0, none⟩)] 75)).alloc (.cells #[.int .i64 (k : Int)] 3)) (w.heap.size + 1) 3 (.int .i64 (k : Int)) := Bx.new (by simp) (by have := Hr.out; simp; omega) (by have := Hc.out; simp; omega)
  have bxs : Bx rb cb (((w.alloc (.cells #[.pointer (some ⟨rb, 0, none⟩)] 75)).alloc (.cells #[.int .i64 (k : Int)] 3)).alloc (.cells #[.slice Ar row.length cr] 23)) (w.heap.size + 2) 23 (.slice Ar row.length cr) := Bx.new (by simp) (by have := Hr.out; simp; omega) (by have := Hc.out; simp; omega)
  have bxc : Bx rb cb ((((w.alloc (.cells #[.pointer (some ⟨rb, 0, none⟩)] 75)).alloc (.cells #[.int .i64 (k : Int)] 3)).alloc (.cells #[.slice Ar row.length cr] 23)).alloc (.cells #[.pointer (some ⟨cb, i * 6, none⟩)] 122)) (w.heap.size + 3) 122 (.pointer (some ⟨cb, i * 6, none⟩)) := Bx.new (by simp) (by have := Hr.out; simp; omega) (by have := Hc.out; simp; omega)
  exact ⟨_, rfl, below4 w _ _ _ _, _, _, rfl, enters_of Try.func100 (by kernel_rfl) rfl, i_source bxc (bxs.allc _) (((bxr.allc _).allc _).allc _) ((bxn.allc _).allc _) hx hk0 hk hrow hrl (hrd.below (below4 w _ _ _ _) hz1) (by simp; omega)⟩


end Go.Proofs.Ythfniffecceldaa
