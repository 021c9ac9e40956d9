import Derived.Test.YteoahlieielcdaaGreatK1
set_option linter.all false
set_option maxHeartbeats 400000
set_option maxRecDepth 100000
namespace Go.Proofs.YteoahlieielcdaaGreat
open Go Go.RowKit Go.MuLone
variable{xb ab:Nat}
section
variable {w:World}{τ:Nat->Tag}
theorem sees_any(d:KnD)(hd:KnAt w d){X:Array Value}(hX:aT w xb X 32)(hX3:X.size=3)(hxt:(τ xb).1=1)(GY:xb≠d.kb)(hxg:xb≠d.kg)(PR:xb≠ab)(r lS:Nat){wn:Nat->Nat}{vl:Nat->ByteArray}
 (hks:∀x∈d.ks,x.size<=1000) (ha:∀(j:Nat) (x:ByteArray),d.ks[j]?=some x->wn j<=1000/\w.cell? ⟨ab,j*3,none⟩=some (.string x)/\w.cell? ⟨ab,j*3+1,none⟩=some (.int .i64 (wn j))/\w.cell? ⟨ab,j*3+2,none⟩=some (.string (vl j))) (ho:RtOk [d] d.ks [d.n] wn vl):
 Calls Tryz.prog 31 #[ptr xb,ptr d.kb,.int .i64 r,.slice (some ⟨d.kg,0,none⟩) d.ks.length d.cap,.slice (some ⟨ab,0,none⟩) d.ks.length lS] w fun e w'=>e=.returned (.bool true)/\Stp 1 τ w τ w':=by
 have n0:=hd.num;have fz:=hX.frozen 1;have x1:∃v,w.cell? ⟨xb,1,none⟩=some v:=⟨_,hX.cell (o:=1) (Array.getElem?_eq_getElem (by omega))⟩
 obtain⟨xv,x1⟩:=x1;have hxl:=hX.lt;have tu:=World.block_lt_of_cell? w _ n0;have HX:Hid (aT w xb X 32):=hX;have HD:Hid (KnAt w d):=hd;have hlo:=hd.lo;have hhi:=hd.hi;have few:=hd.few;unfold ptr;go_enter Tryz.func31,Tryz.ntmps31;go_wp2_with fail
 have hb0:∀{q:Nat},q≠xb->(w.setCell ⟨xb,1,none⟩ (.slice (some ⟨w.heap.size,0,none⟩) 1 1)).heap[q]?=w.heap[q]? :=fun hq=>Below.heap_setCell _ _ _ _ hq;have hx0:=HX.out.set 1 (.slice (some ⟨w.heap.size,0,none⟩) 1 1);have hz0:(w.setCell ⟨xb,1,none⟩ (.slice (some ⟨w.heap.size,0,none⟩) 1 1)).heap.size=w.heap.size:=by simp[World.setCell]
 have EJ:(w.setCell ⟨xb,1,none⟩ (.slice (some ⟨w.heap.size,0,none⟩) 1 1)).os=w.os/\(w.setCell ⟨xb,1,none⟩ (.slice (some ⟨w.heap.size,0,none⟩) 1 1)).tape=w.tape/\(w.setCell ⟨xb,1,none⟩ (.slice (some ⟨w.heap.size,0,none⟩) 1 1)).output=w.output:=⟨rfl,rfl,rfl⟩
 generalize w.setCell ⟨xb,1,none⟩ (.slice (some ⟨w.heap.size,0,none⟩) 1 1)=W0 at *;have hc0:∀{q o:Nat} {v:Value},q≠xb->w.cell? ⟨q,o,none⟩=some v->W0.cell? ⟨q,o,none⟩=some v:=fun{q o v} hq h=>(World.cell?_of_block (w:=w) (a:=⟨q,o,none⟩) (hb0 hq)).trans h;have hB:Below W0.heap.size W0 (((W0.alloc (.cells #[.pointer (some ⟨d.kb,0,none⟩)] 45)).alloc (.cells #[.int .i64 (d.n:Int)] 3)).alloc (.cells #[.int .i64 (r:Int),.slice (some ⟨d.kg,0,none⟩) d.ks.length d.cap,.slice none 0 0,.slice (some ⟨w.heap.size+1,0,none⟩) 1 1] 60)):=(((Below.refl _ _).alloc (Nat.le_refl _) _).alloc (by simp) _).alloc (by simp;omega) _;have b1:=(aT.new W0 #[.pointer (some ⟨d.kb,0,none⟩)] 45).of_eq ((Below.heap_alloc ((W0.alloc (.cells #[.pointer (some ⟨d.kb,0,none⟩)] 45)).alloc (.cells #[.int .i64 (d.n:Int)] 3)) (.cells #[.int .i64 (r:Int),.slice (some ⟨d.kg,0,none⟩) d.ks.length d.cap,.slice none 0 0,.slice (some ⟨w.heap.size+1,0,none⟩) 1 1] 60) W0.heap.size (by simp;omega)).trans (Below.heap_alloc _ _ _ (by simp)));have b2:=(aT.new (W0.alloc (.cells #[.pointer (some ⟨d.kb,0,none⟩)] 45)) #[.int .i64 (d.n:Int)] 3).of_eq (Below.heap_alloc ((W0.alloc (.cells #[.pointer (some ⟨d.kb,0,none⟩)] 45)).alloc (.cells #[.int .i64 (d.n:Int)] 3)) (.cells #[.int .i64 (r:Int),.slice (some ⟨d.kg,0,none⟩) d.ks.length d.cap,.slice none 0 0,.slice (some ⟨w.heap.size+1,0,none⟩) 1 1] 60) (W0.alloc (.cells #[.pointer (some ⟨d.kb,0,none⟩)] 45)).heap.size (by simp));have b3:=aT.new ((W0.alloc (.cells #[.pointer (some ⟨d.kb,0,none⟩)] 45)).alloc (.cells #[.int .i64 (d.n:Int)] 3)) #[.int .i64 (r:Int),.slice (some ⟨d.kg,0,none⟩) d.ks.length d.cap,.slice none 0 0,.slice (some ⟨w.heap.size+1,0,none⟩) 1 1] 60;have LK:∀(V:World) (o:Obj),(V.alloc o).heap.size=V.heap.size+1:=fun V o=>by simp
 simp only[LK,hz0]at b1 b2 b3;generalize (((W0.alloc (.cells #[.pointer (some ⟨d.kb,0,none⟩)] 45)).alloc (.cells #[.int .i64 (d.n:Int)] 3)).alloc (.cells #[.int .i64 (r:Int),.slice (some ⟨d.kg,0,none⟩) d.ks.length d.cap,.slice none 0 0,.slice (some ⟨w.heap.size+1,0,none⟩) 1 1] 60))=W3 at *;have hK:KnAt W3 d:=(show KnAt W0 d from⟨hc0 (Ne.symm GY) HD.out.num,hc0 (Ne.symm GY) HD.out.keys,fun j x hx=>hc0 (Ne.symm hxg) (HD.out.key j x hx),few,hlo,hhi⟩).below hB;have cr:=right_any (w:=W3) (xb:=xb) (rb:=w.heap.size+1+1) (wcap:=1) (a:=some ⟨w.heap.size,0,none⟩) (D:= [d]) (R:=⟨d.ks,d.kg,d.cap, [d.n],some ⟨w.heap.size+1,0,none⟩,1,ab,lS,wn,vl⟩)
  ⟨below_cell hB (hx0.cell (o:=1) (by simp[hX3])),⟨fun i d' hd'=>by
    match i,hd' with
    | 0,hd'=>cases hd';exact⟨_,rfl,b1.cell (o:=0) rfl⟩,fun i d' hd'=>by
    match i,hd' with
    | 0,hd'=>cases hd';exact hK,by simp⟩,b3.cell (o:=1) rfl,b3.cell (o:=3) rfl,fun j x hx=>⟨hK.key j x hx,hks x (List.mem_of_getElem? hx)⟩,fun j m hm=>by
    match j,hm with
    | 0,hm=>cases hm;exact⟨hhi,_,rfl,b2.cell (o:=0) rfl⟩,fun j x hx=>by obtain⟨a0,a1,a2,a3⟩:=ha j x hx;exact⟨a0,below_cell hB (hc0 (Ne.symm PR) a1),below_cell hB (hc0 (Ne.symm PR) a2),below_cell hB (hc0 (Ne.symm PR) a3)⟩,few,by simp⟩ ho
 simp only at cr;unfold ptr at cr;have HB:Hid (Below W0.heap.size W0 W3):=hB;clear hK b1 b2 b3 hc0 hx0 hB;refine cr.mono ?_;rintro e w' ⟨rfl,hB'⟩;clear cr;go_wp2_with fail
 go_ret;have h1:=HB.out.size;have h2:=hB'.size;refine⟨rfl,(hB'.os.trans HB.out.os).trans EJ.1,(hB'.tape.trans HB.out.tape).trans EJ.2.1,(hB'.output.trans HB.out.output).trans EJ.2.2,by omega,fun _ _=>rfl,fun k hk ht=>?_⟩;rw[hB'.block k (by omega),HB.out.block k (by omega),hb0 (fun e=>ht (by rw[e];exact hxt))]
end
end Go.Proofs.YteoahlieielcdaaGreat
