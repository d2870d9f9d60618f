import Derived.Test.YtkaipapdlnojiaaGreatWq28
import Derived.Test.YtkaipapdlnojiaaGreatWq37
set_option maxHeartbeats 40000000
set_option maxRecDepth 1000000
namespace Go.Proofs.YtkaipapdlnojiaaGreat
open Go.RowKit
variable {x y:Int}{es ls:List (List Int)}{hs l o:List Int}{us xs:List Value}{B g i k k2 k3 m n s:Nat}{a:Option Addr}{t:TypeId}{u u0 u1 v vB vH vP vW:Value}{W X w:World}
theorem YH(b o j:Nat):(⟨b,o,none⟩:Addr).add j=⟨b,o+j,none⟩:=by unfold Addr.add;split <;> simp_all
theorem Qm{c:Nat}(h:IS w (.slice a n c) l)(V:0 < l.length):n=l.length/\∃b o,a=some ⟨b,o,none⟩/\∀W,Bl w W->∀(j:Nat) (u:Value),(l.map (Value.int .i64))[j]?=some u->W.cell? ((⟨b,o,none⟩:Addr).add j)=some u:=by
 obtain⟨a',c',e,K⟩:=h;cases e
 refine⟨rfl,?_⟩;rcases K with K|⟨b,o,rfl,K⟩
 ·omega
 ·refine⟨b,o,rfl,λW U j u M=>?_⟩;have I:j < l.length:=by simpa using (List.getElem?_eq_some_iff.1 M).1
  rw[bN,bC I,Option.map_some]at M;have O:=K j I;rw[gD,bC I,Option.getD_some]at O;rw[YH,<-M];exact(U.cell (p:=⟨b,o+j,none⟩) (bL w _ O)).trans O
theorem vK:∀u∈l.map (Value.int .i64),u.oneCell'=true:=λu I=>by obtain⟨x,-,rfl⟩:=List.mem_map.1 I;rfl
theorem qDs{c:Nat}(h:w.ownsRow B t s (.slice a n c) m xs)(h0:0 < m):n=m/\xs.length=m*s/\∃b,a=some ⟨b,0,none⟩/\∀W,Bl w W->∀(j:Nat) (u:Value),xs[j]?=some u->W.cell? ((⟨b,0,none⟩:Addr).add j)=some u:=by
 rcases h.2 with ⟨-,hn⟩|⟨g,cap,cur,e,-,hg,I,O,-,ht⟩
 ·omega
 ·cases e
  have hl:xs.length=m*s:=h.1;refine⟨rfl,hl,g,rfl,λW U j u K=>?_⟩;have V:j < xs.length:=(List.getElem?_eq_some_iff.1 K).1;rw[YH,Nat.zero_add];have M:w.cell? ⟨g,j,none⟩=some u:=(h.cellAt j Oo).trans K;exact(U.cell (p:=⟨g,j,none⟩) (bL w _ M)).trans M
structure Cp3(w W:World)(vB vP vH vW:Value)(x y:Int)(u0 u1 u2 u3:Value):Prop where
 bel:Bl w W
 b1:W.heap[w.heap.size]?=some (.cells #[vB,vP,vH,vW,.int .i64 x,.int .i64 y] 30 (0,0))
 b2:W.heap[w.heap.size+1]?=some (.cells #[.slice none 0 0,.slice none 0 0,.slice none 0 0,.slice none 0 0,.int .i64 0,.int .i64 0] 30 (0,0))
 b3:W.heap[w.heap.size+2]?=some (.cells #[u0,u1,u2,u3,.int .i64 x,.int .i64 y] 30 (0,0))
section
variable {w W W':World} {vB vP vH vW u0 u1 u2 u3:Value} {x y:Int}
theorem Cp3.cells(h:Cp3 w W vB vP vH vW x y u0 u1 u2 u3):W.cell? ⟨w.heap.size,0,none⟩=some vB/\W.cell? ⟨w.heap.size,1,none⟩=some vP/\W.cell? ⟨w.heap.size,2,none⟩=some vH/\W.cell? ⟨w.heap.size,3,none⟩=some vW/\W.cell? ⟨w.heap.size+2,0,none⟩=some u0/\W.cell? ⟨w.heap.size+2,1,none⟩=some u1/\W.cell? ⟨w.heap.size+2,2,none⟩=some u2/\W.cell? ⟨w.heap.size+2,3,none⟩=some u3/\W.cell? ⟨w.heap.size+2,4,none⟩=some (.int .i64 x)/\W.cell? ⟨w.heap.size+2,5,none⟩=some (.int .i64 y):=by
 refine⟨?_,?_,?_,?_,?_,?_,?_,?_,?_,?_⟩;iterate 4 rw[cell_of_row _ _ _ _ _ _ h.b1];rfl
 all_goals(rw[cell_of_row _ _ _ _ _ _ h.b3];rfl)
theorem Cp3.size(h:Cp3 w W vB vP vH vW x y u0 u1 u2 u3):w.heap.size+3<=W.heap.size:=by
 have:=(Array.getElem?_eq_some_iff.1 h.b3).1;omega
theorem Fz.kc {B g : Nat} {P : World → Prop} {w w' : World} (h : Fz B P w) (hk : Kc g w w') (hg : g < B) : Fz B P w' := fun W' hW' => h W' fun k h1 h2 => (hW' k h1 (Nat.lt_of_lt_of_le h2 hk.size)).trans (hk.block k h2 (by omega))
theorem Kc.nwW {g c o : Nat} {a b : World} {v : Value} (h : Kc g a b) (hc : a.heap.size ≤ c) : Kc g a (b.setCell ⟨c, o, none⟩ v) := h.up ((Below.refl _ _).setCell hc v)
theorem cp3_start (w : World) (vB vP vH vW : Value) (x y : Int) : Cp3 w (((w.alloc (.cells #[vB, vP, vH, vW, .int .i64 x, .int .i64 y] 30)).alloc (.cells #[.slice none 0 0, .slice none 0 0, .slice none 0 0, .slice none 0 0, .int .i64 0, .int .i64 0] 30)).alloc (.cells #[.slice none 0 0, .slice none 0 0, .slice none 0 0, .slice none 0 0, .int .i64 x, .int .i64 y] 30)) vB vP vH vW x y (.slice none 0 0) (.slice none 0 0) (.slice none 0 0) (.slice none 0 0) := by
  have hn : ∀ (W : World) (o : Obj) (k : Nat), W.heap.size = k → (W.alloc o).heap[k]? = some o := fun W o k e => by rw [← e]; exact heap_alloc_new _ _
  refine ⟨(((Below.refl _ _).alloc (Nat.le_refl _) _).alloc (by simp) _).alloc (by simp; omega) _, ?_, ?_, hn _ _ _ (by simp)⟩
  · rw [Below.heap_alloc _ _ _ (by simp; omega), Below.heap_alloc _ _ _ (by simp)]; exact heap_alloc_new _ _
  · rw [Below.heap_alloc _ _ _ (by simp)]; exact hn _ _ _ (by simp)
theorem Cp3.grow(h:Cp3 w W vB vP vH vW x y u0 u1 u2 u3)(K:W.grownBy W' (Value.slice none 0 0).ownBlock):Cp3 w W' vB vP vH vW x y u0 u1 u2 u3:=by
 have hs:=h.size;have I:∀k,k < w.heap.size+3->W'.heap[k]?=W.heap[k]?:=λk I=>K.block k Oo (by simp[Value.ownBlock]);exact⟨h.bel.grown K Oo (λk e=>by simp[Value.ownBlock]at e),(I _ Oo).trans h.b1,(I _ Oo).trans h.b2,(I _ Oo).trans h.b3⟩
theorem Cp3.free(h:Cp3 w W vB vP vH vW x y u0 u1 u2 u3)(o:Nat):W.frozen? ⟨w.heap.size+2,o,none⟩=false/\W.frozen? ⟨w.heap.size+1,o,none⟩=false:=by
 refine⟨?_,?_⟩
 ·unfold World.frozen?;rw[show W.heap[w.heap.size+2]?=_ from h.b3];simp
 ·unfold World.frozen?;rw[show W.heap[w.heap.size+1]?=_ from h.b2];simp
theorem Cp3.fin(h:Cp3 w W vB vP vH vW x y u0 u1 u2 u3):Bl w ((((((W.setCell ⟨w.heap.size+1,0,none⟩ u0).setCell ⟨w.heap.size+1,1,none⟩ u1).setCell ⟨w.heap.size+1,2,none⟩ u2).setCell ⟨w.heap.size+1,3,none⟩ u3).setCell ⟨w.heap.size+1,4,none⟩ (.int .i64 x)).setCell ⟨w.heap.size+1,5,none⟩ (.int .i64 y))/\((((((W.setCell ⟨w.heap.size+1,0,none⟩ u0).setCell ⟨w.heap.size+1,1,none⟩ u1).setCell ⟨w.heap.size+1,2,none⟩ u2).setCell ⟨w.heap.size+1,3,none⟩ u3).setCell ⟨w.heap.size+1,4,none⟩ (.int .i64 x)).setCell ⟨w.heap.size+1,5,none⟩ (.int .i64 y)).heap[w.heap.size+1]?=some (.cells #[u0,u1,u2,u3,.int .i64 x,.int .i64 y] 30 (0,0)):=by
 have hb:∀{X:World} {q:Nat} {u:Value},Bl w X->Bl w (X.setCell ⟨w.heap.size+1,q,none⟩ u):=λ{X q u} hX=>hX.setCell (by show w.heap.size<=w.heap.size+1;omega) _;have I:∀{X:World} {q:Nat} {u:Value} {A:Array Value},X.heap[w.heap.size+1]?=some (.cells A 30 (0,0))->(X.setCell ⟨w.heap.size+1,q,none⟩ u).heap[w.heap.size+1]?=some (.cells (A.setIfInBounds q u) 30 (0,0)):=λ{X q u A} hX=>bJ _ _ _ _ _ _ hX;exact⟨hb (hb (hb (hb (hb (hb h.bel))))),I (I (I (I (I (I h.b2)))))⟩
theorem Cp3.put(h:Cp3 w W vB vP vH vW x y u0 u1 u2 u3)(q:Nat)(u:Value){v0 v1 v2 v3:Value}(e:#[u0,u1,u2,u3,.int .i64 x,.int .i64 y].setIfInBounds q u=#[v0,v1,v2,v3,.int .i64 x,.int .i64 y]):Cp3 w (W.setCell ⟨w.heap.size+2,q,none⟩ u) vB vP vH vW x y v0 v1 v2 v3:=by
 refine⟨h.bel.setCell (by show w.heap.size<=w.heap.size+2;omega) _,?_,?_,?_⟩
 ·rw[bE _ _ _ _ (show w.heap.size≠w.heap.size+2 by omega)];exact h.b1
 ·rw[bE _ _ _ _ (show w.heap.size+1≠w.heap.size+2 by omega)];exact h.b2
 ·rw[bJ _ _ _ _ _ _ h.b3,e]
end
structure CpS(w W:World)(vB vP vH vW:Value)(x y:Int)(aB:Option Addr)(m cB:Nat)(us:List Value):Prop where
 c:Cp3 w W vB vP vH vW x y (.slice aB m cB) (.slice none 0 0) (.slice none 0 0) (.slice none 0 0)
 own:W.ownsRow (w.heap.size+3) 25 1 (.slice aB m cB) m us
theorem CpS.push{W' w3:World}{aB:Option Addr}{cB c:Nat}{M:List Value}(h:CpS w W vB vP vH vW x y aB m cB us)(hb:Bl W W')(O:W'.grownBy w3 (Value.slice aB m cB).ownBlock)(I:w3.ownsRow (w.heap.size+3) 25 1 (.slice (some ⟨g,0,none⟩) (m+1) c) (m+1) M):
 CpS w (w3.setCell ⟨w.heap.size+2,0,none⟩ (.slice (some ⟨g,0,none⟩) (m+1) c)) vB vP vH vW x y (some ⟨g,0,none⟩) (m+1) c M:=by
 have hs:=h.c.size;have U:=hb.size;have K:∀{k:Nat} {ob:Obj},W.heap[k]?=some ob->k < w.heap.size+3->w3.heap[k]?=some ob:=λ{k ob} hk hlt=>(O.block k Oo (λe=>by have:=(h.own.lt k e.symm).1;omega)).trans ((hb.block k Oo).trans hk);have V:Cp3 w w3 vB vP vH vW x y (.slice aB m cB) (.slice none 0 0) (.slice none 0 0) (.slice none 0 0):=⟨(h.c.bel.trans (hb.mono Oo)).grown O Oo (λk e=>by have:=(h.own.lt k e).1;omega),K h.c.b1 Oo,K h.c.b2 Oo,K h.c.b3 Oo⟩;exact⟨V.put 0 _ rfl,qA I λc hc=>bE _ _ _ _ (by have:=(I.lt c hc).1;show c≠w.heap.size+2;omega)⟩
def CpE(w:World)(e:Ending)(w':World):Prop:=(∃a0 n0 c0 a1 n1 c1 a2 n2 c2 a3 n3 c3 x y,e=.returned (.agg #[.slice a0 n0 c0,.slice a1 n1 c1,.slice a2 n2 c2,.slice a3 n3 c3,.int .i64 x,.int .i64 y]))/\Bl w w'
theorem YI(w:World)(vB vP vH vW:Value)(x y:Int)(bs:List (List Int))(ps hs:List Int)(B nW:Nat)(ys:List Value)(hb:ISS w vB bs)(hp:IS w vP ps)(hh:IS w vH hs)(hw:w.ownsRow B 28 2 vW nW ys)(g7:∀u∈ys,u.oneCell'=true)(l0:bs.length<=1000)(l1:0 < ps.length/\ps.length<=1000)(l2:0 < hs.length/\hs.length<=1000)(l3:0 < nW/\nW<=1000)(lb:∀b∈bs,0 < b.length/\b.length<=1000):
 Cl 42 #[.agg #[vB,vP,vH,vW,.int .i64 x,.int .i64 y]] w (CpE w):=by
 obtain⟨i0,hi,d9,e6,e7⟩:=info_parts Tryz.infoInt;obtain⟨iS,hk,i4,i5,i6⟩:=info_parts Tryz.infoIS;obtain⟨iR,hr,i7,i8,i9⟩:=info_parts Tryz.infoRatS;have g8:=hid hb;obtain⟨aP,cP,rfl,j0⟩:=id hp;obtain⟨aH,cH,rfl,j2⟩:=id hh
 obtain⟨aW,cW,rfl⟩:∃a c,vW=.slice a nW c:=by
  rcases hw.2 with ⟨rfl,h2⟩|⟨g,cap,cur,rfl,-⟩
  ·exact⟨none,0,by rw[h2]⟩
  ·exact⟨_,cap,rfl⟩
 obtain⟨-,bP,oP,rfl,c8⟩:=Qm hp l1.1;obtain⟨-,bH,oH,rfl,c9⟩:=Qm hh l2.1;obtain⟨-,d6,bW,rfl,d7⟩:=qDs hw l3.1;obtain⟨aB,cB,rfl,g9⟩:=hb;have NP:=hid c8;have NH:=hid c9;have NW:=hid d7;have LP:Hid ((ps.map (Value.int .i64)).length=ps.length*1):=hid Ss;have LH:Hid ((hs.map (Value.int .i64)).length=hs.length*1):=hid Ss;have LW:=hid d6
 have h1:Hid (∀W,Bl w W->∀j,j < bs.length->∃b o a1 c1,aB=some ⟨b,o,none⟩/\W.cell? ⟨b,o+j,none⟩=some (.slice a1 (bs.getD j []).length c1)/\0 < (bs.getD j []).length/\(bs.getD j []).length<=1000/\∃b1 o1,a1=some ⟨b1,o1,none⟩/\∀X,Bl W X->∀(i:Nat) (u:Value),((bs.getD j []).map (Value.int .i64))[i]?=some u->X.cell? ((⟨b1,o1,none⟩:Addr).add i)=some u):=hid λW hW j hj=>by
  rcases g9 with h0|⟨b,o,rfl,hc⟩
  ·omega
  ·obtain⟨u,hu,hI⟩:=hc j hj;obtain⟨a1,c1,rfl,-⟩:=id hI;have h3:bs.getD j []∈bs:=by rw[gD,bC hj];exact gM hj
   have hl:=lb _ h3;obtain⟨-,b1,o1,rfl,hn⟩:=Qm (hI.below hW) hl.1;exact⟨b,o,_,c1,rfl,(hW.cell (p:=⟨b,o+j,none⟩) (bL w _ hu)).trans hu,hl.1,hl.2,b1,o1,rfl,hn⟩
 obtain⟨W1,e8⟩:∃W1,W1=((w.alloc (.cells #[.slice aB bs.length cB,.slice (some ⟨bP,oP,none⟩) ps.length cP,.slice (some ⟨bH,oH,none⟩) hs.length cH,.slice (some ⟨bW,0,none⟩) nW cW,.int .i64 x,.int .i64 y] 30)).alloc (.cells #[.slice none 0 0,.slice none 0 0,.slice none 0 0,.slice none 0 0,.int .i64 0,.int .i64 0] 30)).alloc (.cells #[.slice none 0 0,.slice none 0 0,.slice none 0 0,.slice none 0 0,.int .i64 x,.int .i64 y] 30):=⟨_,rfl⟩;have V:Hid (CpS w W1 (.slice aB bs.length cB) (.slice (some ⟨bP,oP,none⟩) ps.length cP) (.slice (some ⟨bH,oH,none⟩) hs.length cH) (.slice (some ⟨bW,0,none⟩) nW cW) x y none 0 0 []):=hid ⟨by rw[e8];exact cp3_start _ _ _ _ _ _ _,bG _ _ _ _⟩;clear j0 j2 g9 c8 c9 d7 d6 hp hh hw lb;have l6:=hid l0;generalize hbl:bs.length=n at *;generalize ps.length=nP at *;generalize hs.length=nH at *;go_enter Tryz.func42,Tryz.ntmps42
 go_upto_region 2 with fail
 rw[<-e8];clear e8;obtain⟨d0,d1,d2,d3,-,-,-,-,-,-⟩:=V.out.c.cells;go_wp2_with fail
 clear d0 d1 d2 d3;go_loopg [5,12] n (λgk _ t wx=>∃(j:Nat) (a1:Option Addr) (c1:Nat) (us:List Value),t=.int .i64 j/\j<=n/\gk=n - j/\Hid (CpS w wx (.slice aB n cB) (.slice (some ⟨bP,oP,none⟩) nP cP) (.slice (some ⟨bH,oH,none⟩) nH cH) (.slice (some ⟨bW,0,none⟩) nW cW) x y a1 j c1 us))
 case atStart=>exact⟨0,_,_,_,rfl,nZ _,rfl,V⟩
 case round=>
  clear V;obtain⟨j,a1,c1,us,rfl,hj,l7,V⟩:=hrel;by_cases j3:j < n
  ·have j1:(j:Int) < (n:Int):=Oo;obtain⟨b,o,ax,cx,rfl,j4,j5,l8,bx,ox,rfl,d8⟩:=h1.out wr V.out.c.bel j j3;have j6:=hid d8;obtain⟨-,-,-,-,d4,-⟩:=V.out.c.cells;have M:=V.out.c.size;have k0:Hid (((bs.getD j []).map (Value.int .i64)).length=(bs.getD j []).length*1):=hid Ss;clear d8;have e9:∀u∈(bs.getD j []).map (Value.int .i64),u.oneCell'=true:=vK;have h4:Hid ((wr.alloc (.cells #[] 3)).ownsRow wr.heap.size 3 1 (.slice (some ⟨wr.heap.size,0,none⟩) 0 0) 0 []):=hid (oM wr #[] 0 (bK _) Dd rfl);have f4:Hid (∀W,Bl wr W->W.cell? ⟨w.heap.size+2,0,none⟩=some (.slice a1 j c1)/\Bl wr W):=hid λW hW=>⟨(hW.cell (p:=⟨w.heap.size+2,0,none⟩) (by show w.heap.size+2 < wr.heap.size;omega)).trans d4,hW⟩;have I:Hid (Bl wr (wr.alloc (.cells #[] 3)).drew):=hid ((bM _ _).alloc (bK _) _).drew;have k4:Hid (∀W,Bl wr W->W.ownsRow (w.heap.size+3) 25 1 (.slice a1 j c1) j us):=hid λW hW=>qB V.out.own hW
   have HF:Hid (∀W w3,Bl wr W->W.grownBy w3 (Value.slice a1 j c1).ownBlock->w3.cell? ⟨w.heap.size+2,0,none⟩=some (.slice a1 j c1)/\w3.frozen? ⟨w.heap.size+2,0,none⟩=false):=hid λW w3 hW hg=>by
    have hk:w3.heap[w.heap.size+2]?=wr.heap[w.heap.size+2]?:=(hg.block _ (by have:=hW.size;omega) (λe=>by have:=(V.out.own.lt _ e.symm).1;omega)).trans (hW.block _ Oo);exact⟨(bF (w:=wr) (a:=⟨w.heap.size+2,0,none⟩) hk).trans d4,(World.frozen?_of_block (w:=wr) (a:=⟨w.heap.size+2,0,none⟩) hk).trans (V.out.c.free 0).1⟩
   generalize (bs.getD j []).map (Value.int .i64)=nx at *;generalize (bs.getD j []).length=lx at *;go_upto_region 5 with fail
   have dA:∀ob,(wr.alloc ob).cell? ⟨w.heap.size+2,0,none⟩=some (.slice a1 j c1):=λob=>(f4.out _ ((bM _ _).alloc (bK _) ob)).1
   go_region_law (first
    |(refine step_append_lies _ (by rfl) _ _ 25 (by rfl) wr.heap.size 3 i0 (.int .i64 0) 1 8 Tryz.underlying25 hi d9 e6 e7 rfl Dd _ 0 [] (by rfl) h4.out ⟨bx,ox,none⟩ lx cx nx (by rfl) k0.out (j6.out _ I.out) e9 j5 (by unfold maxLen;omega) Oo I.out.size _ rfl ?_;intro k5 k7 a8 i3 a5 k8 k9;have a6:Bl wr a8:=I.out.grown a5 I.out.size (λq hq=>(h4.out.lt q hq).1);have O:∀ob,Bl wr (a8.alloc ob):=(λob=>a6.alloc a6.size ob);have kA:=(f4.out _ a6).1;have kB:∀ob,(a8.alloc ob).cell? ⟨w.heap.size+2,0,none⟩=some (.slice a1 j c1):=(λob=>(f4.out _ (O ob)).1))
    |(refine step_append_lies _ (by rfl) _ _ 24 (by rfl) (w.heap.size+3) 25 iS (.slice none 0 0) 1 24 Tryz.underlying24 hk i4 i5 i6 rfl Dd (.slice a1 j c1) j us (by rfl) (k4.out _ (O _)) ⟨a8.heap.size,0,none⟩ 1 1 [.slice (some ⟨k5,0,none⟩) lx k7] (by rfl) (by rfl) (zJ _ _ _) (λu hu=>by simp at hu;subst hu;rfl) Dd (by unfold maxLen;omega) Oo (by have:=(O default).size;simp at this ⊢;omega) _ rfl ?_;intro l9 m0 m1 a9 U l4 l5;obtain⟨m2,f22⟩:=HF.out _ _ (O _) U)
    |fail)
   all_goals(go_wp2_with fail;go_roundg (n - (j+1)))
   all_goals first
    |omega
    |exact⟨j+1,_,_,_,Gg,Oo,rfl,hid (V.out.push (O _) U a9)⟩
  ·obtain rfl:j=n:=Oo;have j1:¬(j:Int) < (j:Int):=Oo;have b0:=hid V.out.c;have M:=V.out.c.size;obtain⟨-,d1,-,-,-,e1,-⟩:=b0.out.cells;have hw:Bl w wr:=b0.out.bel;clear V h1 g8;have f7:∀(X:World) (t:TypeId) (s:Nat),X.ownsRow (w.heap.size+3) t s (.slice none 0 0) 0 []:=λX t s=>bG _ _ _ _;go_upto_region 8 with (first|(at_builtin;refine wpList_append_lies _ rfl _ _ 25 rfl (w.heap.size+3) 3 i0 (.int .i64 0) 1 8 Tryz.underlying25 hi d9 e6 e7 rfl Dd (.slice none 0 0) 0 [] rfl (f7 _ _ _) ⟨bP,oP,none⟩ nP cP (ps.map (Value.int .i64)) rfl LP.out (NP.out _ hw) vK l1.1 (by unfold maxLen;omega) Oo M _ rfl ?_;intro g2 c2 w2 f8 a2 h5 h6;have b7:=b0.out.grow a2;obtain⟨-,-,-,-,-,k1,-⟩:=b7.cells;have f1:=(b7.free 1).1)|fail)
   have I:=hid (b7.put 1 (.slice (some ⟨g2,0,none⟩) nP c2) rfl);clear b7 f8 a2 h5 h6 k1 f1 d1 e1 hw b0 M;generalize w2.setCell ⟨w.heap.size+2,1,none⟩ (.slice (some ⟨g2,0,none⟩) nP c2)=w3 at *;obtain⟨-,-,d2,-,-,-,e2,-⟩:=I.out.cells;have hw:=I.out.bel;have M:=I.out.size;go_upto_region 9 with (first|(at_builtin;refine wpList_append_lies _ rfl _ _ 25 rfl (w.heap.size+3) 3 i0 (.int .i64 0) 1 8 Tryz.underlying25 hi d9 e6 e7 rfl Dd (.slice none 0 0) 0 [] rfl (f7 _ _ _) ⟨bH,oH,none⟩ nH cH (hs.map (Value.int .i64)) rfl LH.out (NH.out _ hw) vK l2.1 (by unfold maxLen;omega) Oo M _ rfl ?_;intro g4 c4 w4 f9 a3 h7 h8;have b9:=I.out.grow a3;obtain⟨-,-,-,-,-,-,k2,-⟩:=b9.cells;have f2:=(b9.free 2).1)|fail)
   have a7:=hid (b9.put 2 (.slice (some ⟨g4,0,none⟩) nH c4) rfl);clear b9 f9 a3 h7 h8 k2 f2 d2 e2 hw I M;generalize w4.setCell ⟨w.heap.size+2,2,none⟩ (.slice (some ⟨g4,0,none⟩) nH c4)=w5 at *;obtain⟨-,-,-,d3,-,-,-,e3,-⟩:=a7.out.cells;have hw:=a7.out.bel;have M:=a7.out.size;go_upto_region 10 with (first|(at_builtin;refine wpList_append_lies _ rfl _ _ 26 rfl (w.heap.size+3) 28 iR (.agg #[.int .i64 0,.int .i64 0]) 2 16 Tryz.underlying26 hr i7 i8 i9 rfl Dd (.slice none 0 0) 0 [] rfl (f7 _ _ _) ⟨bW,0,none⟩ nW cW ys rfl LW.out (NW.out _ hw) g7 l3.1 (by unfold maxLen;omega) Oo M _ rfl ?_;intro g6 c6 w6 g5 a4 h9 i1;have c7:=a7.out.grow a4;obtain⟨-,-,-,-,-,-,-,k3,-⟩:=c7.cells;have f3:=(c7.free 3).1)|fail)
   have K:=hid (c7.put 3 (.slice (some ⟨g6,0,none⟩) nW c6) rfl);clear c7 g5 a4 h9 i1 k3 f3 d3 e3 hw a7 M;generalize w6.setCell ⟨w.heap.size+2,3,none⟩ (.slice (some ⟨g6,0,none⟩) nW c6)=w7 at *;obtain⟨-,-,-,-,e0,e1,e2,e3,e4,e5⟩:=K.out.cells;have m3:=(K.out.free 0).2;have m4:=(K.out.free 1).2;have m5:=(K.out.free 2).2;have m6:=(K.out.free 3).2;have m7:=(K.out.free 4).2;have m8:=(K.out.free 5).2
   have z0:w7.cell? ⟨w.heap.size+1,0,none⟩=some (.slice none 0 0)/\w7.cell? ⟨w.heap.size+1,1,none⟩=some (.slice none 0 0)/\w7.cell? ⟨w.heap.size+1,2,none⟩=some (.slice none 0 0)/\w7.cell? ⟨w.heap.size+1,3,none⟩=some (.slice none 0 0)/\w7.cell? ⟨w.heap.size+1,4,none⟩=some (.int .i64 0)/\w7.cell? ⟨w.heap.size+1,5,none⟩=some (.int .i64 0):=by
    refine⟨?_,?_,?_,?_,?_,?_⟩ <;> (rw[cell_of_row _ _ _ _ _ _ K.out.b2];rfl)
   obtain⟨z0,z1,z2,z3,z4,z5⟩:=z0;obtain⟨hF,hX⟩:=K.out.fin;have HF:=hid hF;have HX:=hid hX;clear hF hX K;go_wp2_with fail
   obtain⟨WF,i2⟩:∃WF,WF=((((((w7.setCell ⟨w.heap.size+1,0,none⟩ (.slice a1 j c1)).setCell ⟨w.heap.size+1,1,none⟩ (.slice (some ⟨g2,0,none⟩) nP c2)).setCell ⟨w.heap.size+1,2,none⟩ (.slice (some ⟨g4,0,none⟩) nH c4)).setCell ⟨w.heap.size+1,3,none⟩ (.slice (some ⟨g6,0,none⟩) nW c6)).setCell ⟨w.heap.size+1,4,none⟩ (.int .i64 x)).setCell ⟨w.heap.size+1,5,none⟩ (.int .i64 y)):=⟨_,rfl⟩;rw[<-i2]at HF HX ⊢;clear i2
   have y0:WF.cell? ⟨w.heap.size+1,0,none⟩=some (.slice a1 j c1)/\WF.cell? ⟨w.heap.size+1,1,none⟩=some (.slice (some ⟨g2,0,none⟩) nP c2)/\WF.cell? ⟨w.heap.size+1,2,none⟩=some (.slice (some ⟨g4,0,none⟩) nH c4)/\WF.cell? ⟨w.heap.size+1,3,none⟩=some (.slice (some ⟨g6,0,none⟩) nW c6)/\WF.cell? ⟨w.heap.size+1,4,none⟩=some (.int .i64 x)/\WF.cell? ⟨w.heap.size+1,5,none⟩=some (.int .i64 y):=by
    refine⟨?_,?_,?_,?_,?_,?_⟩ <;> (rw[cell_of_row _ _ _ _ _ _ HX.out];rfl)
   obtain⟨y0,y1,y2,y3,y4,y5⟩:=y0;refine bodyPost_ret (v:=.agg #[.slice a1 j c1,.slice (some ⟨g2,0,none⟩) nP c2,.slice (some ⟨g4,0,none⟩) nH c4,.slice (some ⟨g6,0,none⟩) nW c6,.int .i64 x,.int .i64 y]) (by simp only[results,Tryz.results42];simp[go_sem,y0,y1,y2,y3,y4,y5]) rfl ?_;exact⟨⟨_,_,_,_,_,_,_,_,_,_,_,_,_,_,rfl⟩,HF.out⟩
theorem qDY(m:Nat->Bool)(n:Nat):(plc m n).Pairwise (·< ·):=by
 unfold plc;rw[List.pairwise_map];refine List.Pairwise.imp ?_ ((List.pairwise_lt_range (n:=n)).filter _);intro a b h;simp only[Int.ofNat_eq_natCast];omega
theorem qCK(h:i < l.length):l.getD i 0∈l:=by rw[gD,bC h];exact gM _
theorem qDZ(m:Nat->Bool):qL (plc m 6)=true:=by
 refine vj λi hi=>?_;have I:=qEV (qCK hi)
 have K:i=0∨(plc m 6).getD (i - 1) 0 < (plc m 6).getD i 0:=by
  by_cases e:i=0
  ·exact Or.inl e
  ·right;have:=List.pairwise_iff_getElem.1 (qDY m 6) (i - 1) i Oo hi Oo;rw[gD,gD,bC hi,bC (by omega:i - 1 < _)];exact this
 unfold zc;simp only[Bool.and_eq_true,Bool.or_eq_true,decide_eq_true_eq];exact⟨⟨I.1,I.2⟩,K⟩
theorem qEq(h:xw (k:Int) es=true):∀e∈es,∀x∈e,0<=x/\x < (k:Int):=by
 rw[qAG]at h;simp only[Bool.and_eq_true]at h;intro e K x M;have O:=bY.1 h.1.2 e K;obtain⟨j,U,rfl⟩:=zz M;have I:=bY.1 O j (List.mem_range.2 U);unfold xL at I;simp only[Bool.and_eq_true,decide_eq_true_eq]at I;exact I.1
theorem Vl(h:xw (k:Int) es=true):k<=6/\qj es=true/\∀v,v < k->xC es (v:Int)=true:=by
 unfold xw at h;simp only[Bool.and_eq_true,decide_eq_true_eq]at h;refine⟨by have:=h.1.1.1.2;omega,h.1.1.2,λv hv=>?_⟩;have:=bY.1 h.2 v (List.mem_range.2 Oo);exact this
theorem U4(h:xw (k:Int) es=true)(K:uZ (k:Int) o=true):Ord k es o:=by
 have hs:kI (k:Int) o=true:=by rw[<-qBz];exact K
 unfold uZ at K;unfold kI at hs;simp only[Bool.and_eq_true,decide_eq_true_eq]at K hs;have hlen:o.length=k:=by have:=K.1;omega
 obtain⟨h6,-,O⟩:=Vl h;have M:∀j,j < k->vN (k:Int) o j=true:=λj hj=>bY.1 K.2 j (List.mem_range.2 Oo)
 have I:∀j,j < k->o.getD j 0=(oN o j:Int)/\oN o j < k:=λj hj=>by
  have:=M j hj;unfold vN at this;simp only[Bool.and_eq_true,decide_eq_true_eq]at this;unfold oN;omega
 have U:=Yj (k:=(k:Int)) (o:=o) λi hi=>M i Oo;refine⟨h6,hlen,qEq h,I,λa b V hb e=>?_,λv hv=>?_,λv hv=>?_⟩
 ·have h1:=List.pairwise_iff_getElem.1 U a b Oo Oo V;have e1:o.getD a 0=o.getD b 0:=by rw[(I a Oo).1,(I b hb).1,e]
  rw[gD,gD,bC Oo,bC Oo]at e1;exact h1 e1
 ·have:=bY.1 hs.2 v (List.mem_range.2 Oo);rw[dE]at this;obtain⟨q,hq,e⟩:=zz this;exact⟨q,Oo,by unfold oN;omega⟩
 ·have:=O v hv;unfold xC at this;unfold zi;rw[List.any_eq_true]at this ⊢;obtain⟨e,he,h1⟩:=this;exact⟨e,he,by simpa using h1⟩
theorem qEr(h:x∈zw es o i):∃b:Nat,x=(b:Int)/\b < 6/\Elim.gAt (zi es) (oN o) i (oN o i) b=true:=by
 unfold zw at h;rw[List.mem_map]at h;obtain⟨b,hb,e⟩:=h;rw[List.mem_filter,List.mem_range]at hb;exact⟨b,e.symm,hb.1,hb.2⟩
theorem U5{a b:Nat}(h:zi es a b=true):∃e∈es,(b:Int)∈e:=by
 unfold zi at h;rw[List.any_eq_true]at h;obtain⟨e,K,I⟩:=h;rw[bA,dE,dE]at I;exact⟨e,K,I.2⟩
theorem qF9{E:Nat->Prop}{a b:Nat}(h:Elim.Rc (zi es) E a b):∃e∈es,(b:Int)∈e:=h.ind (M:=λ_ b=>∃e∈es,(b:Int)∈e) (λ_ _ h=>U5 h) λ_ _ _ _ _ h=>U5 h
theorem U6(I:Ord k es o)(hi:i < k):GoodBag es (zw es o i)/\1<=(zw es o i).length:=by
 have hs:=I.self _ (I.at' i hi).2;have key:∀b,Elim.gAt (zi es) (oN o) i (oN o i) b=true↔(∀j,j < i->oN o j≠b)/\(b=oN o i∨Elim.Rc (zi es) (λx=>∃j,j < i+1/\oN o j=x) (oN o i) b):=λb=>Elim.bag_iff (UX es) (λj q K h2=>I.nd j q K Oo) hs;refine⟨⟨qDZ _,?_⟩,?_⟩
 ·unfold ql;rw[bY];intro x M;obtain⟨b,rfl,-,hb⟩:=qEr M
  have:∃e∈es,(b:Int)∈e:=by
   rcases ((key b).1 hb).2 with rfl|h
   ·exact U5 hs
   ·exact qF9 h
  rw[List.any_eq_true];obtain⟨e,O,K⟩:=this;exact⟨e,O,by simpa using K⟩
 ·have U:((oN o i:Nat):Int)∈zw es o i:=by
   unfold zw;rw[List.mem_map];refine⟨oN o i,List.mem_filter.2 ⟨List.mem_range.2 (by have:=(I.at' i hi).2;have:=I.k6;omega),?_⟩,rfl⟩;exact(key _).2 ⟨λj V=>I.nd j i V hi,Or.inl rfl⟩
  exact List.length_pos_of_mem U
theorem RL.issE{vs:List Value}(h:RL W B v vs ls):ISS W v ls:=by
 obtain⟨a,cap,e⟩:=h.sl;refine⟨a,cap,e,?_⟩;by_cases M:ls.length=0
 ·exact Or.inl M
 ·right;obtain⟨g,cp,I,-⟩:=h.get (i:=0) Oo;rw[e]at I;simp only[Value.slice.injEq]at I;obtain⟨rfl,-,-⟩:=I;refine⟨g,0,rfl,λj O=>?_⟩;obtain⟨g',U,K,V,h2⟩:=h.get O;rw[e]at K;simp only[Value.slice.injEq,Option.some.injEq,Addr.mk.injEq]at K;obtain⟨⟨rfl,-⟩,-,-⟩:=K;exact⟨_,by rw[Nat.zero_add];exact V,h2⟩
theorem UU(W:World)(vB vP vH vW:Value)(x y:Int):PBx (W.alloc (.cells #[vB,vP,vH,vW,.int .i64 x,.int .i64 y] 30)) W.heap.size vB vP vH vW x y:=by
 have hb:=heap_alloc_new W (.cells #[vB,vP,vH,vW,.int .i64 x,.int .i64 y] 30);refine⟨?_,?_,?_,?_,?_,?_,λj=>by unfold World.frozen?;rw[hb];simp,⟨_,hb⟩⟩;all_goals rw[cell_of_row _ _ _ _ _ _ hb];rfl
theorem PBx.set45{p:Nat}(h:PBx W p vB vP vH vW x y)(I K:Int):PBx ((W.setCell ⟨p,4,none⟩ (.int .i64 I)).setCell ⟨p,5,none⟩ (.int .i64 K)) p vB vP vH vW I K:=
 ⟨(qa Dd).trans ((qa Dd).trans h.c0),(qa Dd).trans ((qa Dd).trans h.c1),(qa Dd).trans ((qa Dd).trans h.c2),(qa Dd).trans ((qa Dd).trans h.c3),(qa Dd).trans (bI _ _ _ h.c4),bI _ _ _ ((qa Dd).trans h.c5),λj=>by rw[fS,fS];exact h.free j,qD (qD h.typ)⟩
theorem xI{p off:Nat}{e I:TypeId}{y:Value}(h:W.ownsRow B e s v n xs)(K:∃cur,W.heap[p]?=some (.cells cur I (0,0)))(M:e≠I):(W.setCell ⟨p,off,none⟩ y).ownsRow B e s v n xs:=
 qA h λg O=>bE _ _ _ _ (by rintro rfl;exact own_ne h K M O.symm)
def wdE(es:List (List Int))(o:List Int)(k:Nat)(i:Nat):Rat:=wdR es ((zk es o k).getD i [])
theorem Xj(w:World)(ve vo:Value)(es:List (List Int))(o:List Int)(k:Nat)(he:ISS w ve es)(hS:zS es)(ho:IS w vo o)(hp:xw (k:Int) es=true)(a9:uZ (k:Int) o=true):
 Cl 39 #[.int .i64 k,ve,vo] w λe w'=>∃vB vs vP vH vW,e=.returned (.agg #[vB,vP,vH,vW,.int .i64 (zW (wdE es o k) k).num,.int .i64 (zW (wdE es o k) k).den])/\
  PlS w' w.heap.size vB vs (zk es o k) vP (xO es o k) vH (zL es o es.length)/\w'.ownsRow w.heap.size 28 2 vW k (rcs (prs k (wdE es o k)))/\Bl w w':=by
 have hO:=U4 hp a9;have h5:=hO.k6;obtain⟨-,b0,-⟩:=Vl hp;obtain⟨W1,a7⟩:∃W1,W1=w.alloc (.cells #[.slice none 0 0,.slice none 0 0,.slice none 0 0,.slice none 0 0,.int .i64 0,.int .i64 0] 30):=⟨_,rfl⟩;have V:Bl w W1:=by rw[a7];exact(bM _ _).alloc (bK _) _
 have e2:Hid (PBx W1 w.heap.size (.slice none 0 0) (.slice none 0 0) (.slice none 0 0) (.slice none 0 0) 0 0):=hid (by rw[a7];exact UU _ _ _ _ _ _ _);have KP:=hid (XG W1 ve k es (he.below V) hS);have KO:=hid (Z3 W1 vo o k (ho.below V) (by rw[hO.len];omega));rw[hp]at KP;rw[<-qBz,a9]at KO;have KS:=hid (VL W1 ve vo es o k (he.below V) hS (ho.below V) hO (xH b0))
 have KW:Hid (∀W v,Bl w W->ISS W v (zk es o k)->Cl 41 #[v,ve] W λe w'=>∃v,e=.returned (.tuple #[v,.agg #[.int .i64 (zW (wdE es o k) k).num,.int .i64 (zW (wdE es o k) k).den]])/\
  w'.ownsRow W.heap.size 28 2 v k (rcs (prs k (wdE es o k)))/\Bl W w'):=hid λW v hW hv=>by
  have h:=jo W v ve (zk es o k) es hv (by rw[xy];omega) (he.below hW) hS b0 (λi hi=>by
   rw[xy]at hi
   have e:(zk es o k).getD i []=zw es o i:=by
    unfold zk;rw[gD,bN,List.getElem?_range hi];rfl
   rw[e];exact U6 hO hi)
  rw[xy]at h;exact h
 have b7:=hid V;obtain⟨ae,ce,rfl,-⟩:=he;obtain⟨ao,co,rfl,-⟩:=ho;clear V hS hp a9 hO b0;generalize (zW (wdE es o k) k).num=X at *;generalize ((zW (wdE es o k) k).den:Int)=Y at *;go_enter Tryz.func39,Tryz.ntmps39
 go_upto_region 1 with fail
 rw[<-a7];clear a7;go_wp2_with fail
 refine KP.out.mono ?_;rintro e w2 ⟨rfl,e3⟩;subst w2;go_wp2_with fail
 refine KO.out.mono ?_;rintro e w2 ⟨rfl,e3⟩;subst w2;go_wp2_with fail
 refine KS.out.mono ?_;rintro e w2 ⟨vB,vs,vP,vH,rfl,a4,b9⟩;have c7:=hid (a4.base b7.out.size);have c8:=hid (e2.out.below b9);have c9:=hid (bt b7.out b9);obtain⟨aB,cB,eB⟩:=a4.rl.sl;obtain⟨aP,cP,eP⟩:=kP a4.ownP;obtain⟨aH,cH,eH⟩:=kP a4.ownH;subst eB eP eH;clear KP KO KS e2 b7 a4 b9;have e4:=xy es o k;rw[e4]at c7 ⊢;clear e4;generalize (xO es o k).length=l2 at *;generalize (zL es o es.length).length=l3 at *;go_upto_region 4 with fail
 have M:Hid (Bl w2 (w2.alloc (.cells #[.slice aB k cB,.slice aP l2 cP,.slice aH l3 cH,.slice none 0 0,.int .i64 0,.int .i64 0] 30))):=hid ((bM _ _).alloc (bK _) _);have d6:=hid (UU w2 (.slice aB k cB) (.slice aP l2 cP) (.slice aH l3 cH) (.slice none 0 0) 0 0);have d7:=hid (c7.out.below M.out);have e5:=hid (c8.out.below M.out);have a8:=hid (bt c9.out M.out);have e3:=c9.out.size;have h6:=c8.out.lt;clear c7 c8 c9 M;generalize w2.alloc (.cells #[.slice aB k cB,.slice aP l2 cP,.slice aH l3 cH,.slice none 0 0,.int .i64 0,.int .i64 0] 30)=W3 at *;have c0:=d6.out.c0;have e6:=hid (KW.out W3 _ a8.out d7.out.rl.issE);go_wp2_with fail
 refine e6.out.mono ?_;rintro e w4 ⟨vW,rfl,d8,a5⟩;have d9:=hid (d6.out.below a5);have e7:=hid (d7.out.below a5);have e8:=hid (e5.out.below a5);have e9:=hid (bt a8.out a5);have f7:=hid (qF d8 a8.out.size);obtain⟨aW,cW,eW⟩:=kP d8;subst eW;clear KW e6 d6 d7 e5 a8 d8 a5 c0;go_upto_region 5 with fail
 have M:Hid (Bl w4 (w4.alloc (.cells #[.int .i64 X,.int .i64 Y] 28))):=hid ((bM _ _).alloc (bK _) _);have a2:=hid (d9.out.below M.out);have f8:=hid (e7.out.below M.out);have f9:=hid (e8.out.below M.out);have g2:=hid (bt e9.out M.out);have g6:=hid (qB f7.out M.out);have g7:=hid (heap_alloc_new w4 (.cells #[.int .i64 X,.int .i64 Y] 28));have h7:=d9.out.lt;clear d9 e7 e8 e9 f7 M;generalize w4.alloc (.cells #[.int .i64 X,.int .i64 Y] 28)=W5 at *;have c3:=a2.out.c3;have g3:=a2.out.free 3;have U:30≠3/\30≠25:=Dd;go_upto_region 6 with fail
 have O:=hid (a2.out.set3 (.slice aW k cW));have g8:=hid (f8.out.store (off:=3) a2.out.typ U (.slice aW k cW));have g9:=hid (f9.out.other (q:=w2.heap.size) (off:=3) Oo (.slice aW k cW));have h0:=hid (g2.out.setCell (p:=⟨w2.heap.size,3,none⟩) (by show w.heap.size<=w2.heap.size;omega) (.slice aW k cW));have h1:=hid (xI (off:=3) (y:=.slice aW k cW) g6.out a2.out.typ Dd);have a6:=hid ((bE W5 ⟨w2.heap.size,3,none⟩ (.slice aW k cW) w4.heap.size (by show w4.heap.size≠w2.heap.size;omega)).trans g7.out);clear c3 g3 a2 f8 f9 g2 g6 g7;generalize W5.setCell ⟨w2.heap.size,3,none⟩ (.slice aW k cW)=W6 at *;have e0:W6.cell? ⟨w4.heap.size,0,none⟩=some (.int .i64 X):=by rw[cell_of_row _ _ _ _ _ _ a6.out];rfl
 have e1:W6.cell? ⟨w4.heap.size,1,none⟩=some (.int .i64 Y):=by rw[cell_of_row _ _ _ _ _ _ a6.out];rfl
 have c4:=O.out.c4;have c5:=O.out.c5;have g4:=O.out.free 4;have g5:=O.out.free 5;go_upto_region 7 with fail
 have a3:=hid (O.out.set45 X Y);have h2:=hid ((g8.out.store (off:=4) O.out.typ U (.int .i64 X)).store (off:=5) (qD O.out.typ) U (.int .i64 Y));have I:=hid ((g9.out.other (q:=w2.heap.size) (off:=4) Oo (.int .i64 X)).other (q:=w2.heap.size) (off:=5) Oo (.int .i64 Y));have h3:=hid ((h0.out.setCell (p:=⟨w2.heap.size,4,none⟩) (by show w.heap.size<=w2.heap.size;omega) (.int .i64 X)).setCell (p:=⟨w2.heap.size,5,none⟩) (by show w.heap.size<=w2.heap.size;omega) (.int .i64 Y));have h4:=hid (xI (off:=5) (y:=.int .i64 Y) (xI (off:=4) (y:=.int .i64 X) h1.out O.out.typ Dd) (qD O.out.typ) Dd);clear c4 c5 g4 g5 e0 e1 O g8 g9 h0 h1 a6;generalize (W6.setCell ⟨w2.heap.size,4,none⟩ (.int .i64 X)).setCell ⟨w2.heap.size,5,none⟩ (.int .i64 Y)=W7 at *;have c0:=a3.out.c0;have c1:=a3.out.c1;have c2:=a3.out.c2;have c3:=a3.out.c3;have c4:=a3.out.c4;have c5:=a3.out.c5;have d0:=I.out.c0;have d1:=I.out.c1;have d2:=I.out.c2;have d3:=I.out.c3;have d4:=I.out.c4;have d5:=I.out.c5;have f0:=I.out.free 0;have f1:=I.out.free 1;have f2:=I.out.free 2;have f3:=I.out.free 3;have f4:=I.out.free 4;have f5:=I.out.free 5;have K:=hid I.out.typ;go_wp2_with fail
 refine bodyPost_ret (v:=.agg #[.slice aB k cB,.slice aP l2 cP,.slice aH l3 cH,.slice aW k cW,.int .i64 X,.int .i64 Y]) (by simp[results,Tryz.results39,go_sem,d0,d1,d2,d3,d4,d5]) rfl ⟨_,vs,_,_,_,rfl,?_,?_,?_⟩
 ·exact(((((h2.out.store K.out U _).store (qD K.out) U _).store (qD (qD K.out)) U _).store (qD (qD (qD K.out))) U _).store (qD (qD (qD (qD K.out)))) U _).store (qD (qD (qD (qD (qD K.out))))) U _
 ·exact xI (xI (xI (xI (xI (xI h4.out K.out Dd) (qD K.out) Dd) (qD (qD K.out)) Dd) (qD (qD (qD K.out))) Dd) (qD (qD (qD (qD K.out)))) Dd) (qD (qD (qD (qD (qD K.out))))) Dd
 ·exact(((((h3.out.setCell (bK _) _).setCell (bK _) _).setCell (bK _) _).setCell (bK _) _).setCell (bK _) _).setCell (bK _) _
structure Lg(g:Nat)(W0 W:World)(l:List (Nat×Obj)):Prop where
 kc:Kc g W0 W
 at':∀e∈l,W0.heap.size<=e.1/\W.heap[e.1]?=some e.2
section
variable {g:Nat} {W0 W W':World} {l:List (Nat×Obj)}
theorem Lg.start{g:Nat}{W0:World}:Lg g W0 W0 []:=⟨Kc.refl _ _,fun e he=>by cases he⟩
theorem Lg.drew (h : Lg g W0 W l) : Lg g W0 W.drew l := ⟨h.kc.dwW, h.at'⟩
theorem Lg.alloc {o : Obj} (h : Lg g W0 W l) : Lg g W0 (W.alloc o) ((W.heap.size, o) :: l) := ⟨h.kc.alW o, fun e he => by
  rcases List.mem_cons.1 he with rfl | he
  · exact ⟨h.kc.size, heap_alloc_new _ _⟩
  · exact ⟨(h.at' e he).1, (Below.heap_alloc _ _ _ (zv (h.at' e he).2)).trans (h.at' e he).2⟩⟩
theorem Lg.call(h:Lg g W0 W l)(M:g < W0.heap.size)(K:Kc g W W'):Lg g W0 W' l:=⟨h.kc.trans K,λe I=>⟨(h.at' e I).1,zu (h.at' e I).2 K (by have:=(h.at' e I).1;omega)⟩⟩
theorem Lg.get(h:Lg g W0 W l){o:Obj}(I:(k,o)∈l):W.heap[k]?=some o:=(h.at' _ I).2
theorem Lg.own0(h:Lg g W0 W l)(I:(k,.cells #[] 3 (0,0))∈l):W.ownsRow W0.heap.size 3 1 (.slice (some ⟨k,0,none⟩) 0 0) 0 []:=
 ⟨rfl,Or.inr ⟨k,0,#[],rfl,(h.at' _ I).1,h.get I,bK _,by unfold maxLen;omega,rfl,rfl⟩⟩
def nE:Obj->Bool
 | .cells a _ _=>!a.isEmpty
 |_=>true
def nPl:Obj->Bool
 | .cells _ t _=>t != 30
 |_=>true
end
structure Lq(g:Nat)(a:Option Addr)(n cap k:Nat)(W0 W:World)(q m c:Nat)(xs:List Value)(l:List (Nat×Obj)):Prop where
 lg:Lg g W0 W l
 rd:Rdr W g a n cap k
 gl:g < W0.heap.size
 bl:∀b o,a=some ⟨b,o,none⟩->0 < n->b < W0.heap.size
 own:W.ownsRow W0.heap.size 3 1 (.slice (some ⟨q,0,none⟩) m c) m xs
 ne:∀e∈l,e.1≠q
section
variable {g q m c n cap k:Nat} {a:Option Addr} {W0 W W':World} {l:List (Nat×Obj)} {xs:List Value}
theorem Lg.grow(h:Lg g W0 W l)(hr:Rdr W g a n cap k)(gl:g < W0.heap.size)(bl:∀b o,a=some ⟨b,o,none⟩->0 < n->b < W0.heap.size){kA:Nat}(hm:(kA,.cells #[] 3 (0,0))∈l)(hg:W.grownBy W' (Value.slice (some ⟨kA,0,none⟩) 0 0).ownBlock)(a2:(Value.slice (some ⟨kA,0,none⟩) 0 0).ownBlock=some q∨q=W.heap.size)(M:W'.ownsRow W0.heap.size 3 1 (.slice (some ⟨q,0,none⟩) m c) m xs):Lq g a n cap k W0 W' q m c xs (l.filter λe=>nE e.2):=by
 have hk:=(h.at' _ hm)
 have I:∀e∈l.filter λe=>nE e.2,e∈l/\e.1≠kA:=λe K=>by
  obtain⟨O,h2⟩:=List.mem_filter.1 K;refine⟨O,λU=>?_⟩;have h3:=(h.at' e O).2;rw[U,hk.2,oI]at h3;rw[<-h3]at h2;simp[nE]at h2
 have V:Below W0.heap.size W W':=(bM _ _).grown hg h.kc.size λj e=>by
  simp only[Value.ownBlock,Option.some.injEq]at e;have:=hk.1;omega
 refine⟨⟨h.kc.up V,λe K=>⟨(h.at' e (I e K).1).1,(hg.block e.1 (zv (h.at' e (I e K).1).2) (λU=>?_)).trans (h.at' e (I e K).1).2⟩⟩,hr.above V gl bl,gl,bl,M,λe K U=>?_⟩
 ·simp only[Value.ownBlock,Option.some.injEq]at U;exact(I e K).2 U
 ·rcases a2 with O|O
  ·simp only[Value.ownBlock,Option.some.injEq]at O;exact(I e K).2 Oo
  ·have:=zv (h.at' e (I e K).1).2;omega
theorem Lq.alloc {o : Obj} (h : Lq g a n cap k W0 W q m c xs l) : Lq g a n cap k W0 (W.alloc o) q m c xs ((W.heap.size, o) :: l) := ⟨h.lg.alloc, h.rd.below ((Below.refl _ _).alloc (Nat.le_refl _) _), h.gl, h.bl, h.own.alloc o, fun e he => by
  rcases List.mem_cons.1 he with rfl | he
  · have := (h.own.lt q rfl).2
    show W.heap.size ≠ q
    omega
  · exact h.ne e he⟩
structure Fn(g:Nat)(a:Option Addr)(n cap k:Nat)(W0 W:World)(q m c:Nat)(xs:List Value)(x:Int)(p k2 k3:Nat):Prop where
 kc:Kc g W0 W
 rd:Rdr W g a n cap k
 own:W.ownsRow W0.heap.size 3 1 (.slice (some ⟨q,0,none⟩) m c) m xs
 hp:W0.heap.size<=p
 bx:W.heap[p]?=some (.cells #[.slice (some ⟨k2,0,none⟩) 1 1,.slice (some ⟨k3,0,none⟩) 1 1,.slice none 0 0,.slice none 0 0,.int .i64 0,.int .i64 0] 30 (0,0))
 b2:W.ownsRow W0.heap.size 25 1 (.slice (some ⟨k2,0,none⟩) 1 1) 1 [.slice (some ⟨q,0,none⟩) m c]
 b3:W.ownsRow W0.heap.size 3 1 (.slice (some ⟨k3,0,none⟩) 1 1) 1 [.int .i64 x]
 ne:k3≠q
theorem kV(hB:B<=k)(h:W.heap[k]?=some (.cells #[u] t (0,0))):W.ownsRow B t 1 (.slice (some ⟨k,0,none⟩) 1 1) 1 [u]:=
 ⟨rfl,Or.inr ⟨k,1,#[u],rfl,hB,h,bK _,by unfold maxLen;omega,rfl,rfl⟩⟩
theorem Lq.fill(h:Lq g a n cap k W0 W q m c xs l){p:Nat}(m4:(p,.cells #[.slice none 0 0,.slice none 0 0,.slice none 0 0,.slice none 0 0,.int .i64 0,.int .i64 0] 30 (0,0))∈l):
 Lq g a n cap k W0 ((((((W.setCell ⟨p,0,none⟩ u0).setCell ⟨p,1,none⟩ u1).setCell ⟨p,2,none⟩ (.slice none 0 0)).setCell ⟨p,3,none⟩ (.slice none 0 0)).setCell ⟨p,4,none⟩ (.int .i64 0)).setCell ⟨p,5,none⟩ (.int .i64 0)) q m c xs ((p,.cells #[u0,u1,.slice none 0 0,.slice none 0 0,.int .i64 0,.int .i64 0] 30 (0,0))::l.filter λe=>nPl e.2):=by
 have hp:=(h.lg.at' _ m4).1;have M:∀{X:World} {i:Nat} {u:Value} {A:Array Value},X.heap[p]?=some (.cells A 30 (0,0))->(X.setCell ⟨p,i,none⟩ u).heap[p]?=some (.cells (A.setIfInBounds i u) 30 (0,0)):=λ{X i u A} hX=>bJ _ _ _ _ _ _ hX;have hb:∀{X:World} {i:Nat} {u:Value},Below W0.heap.size W X->Below W0.heap.size W (X.setCell ⟨p,i,none⟩ u):=λ{X i u} hX=>hX.setCell (by exact hp) _;have O:=hb (u:=.int .i64 0) (i:=5) (hb (u:=.int .i64 0) (i:=4) (hb (u:=.slice none 0 0) (i:=3) (hb (u:=.slice none 0 0) (i:=2) (hb (u:=u1) (i:=1) (hb (u:=u0) (i:=0) (bM _ _))))))
 have U:∀{j:Nat},j≠p->((((((W.setCell ⟨p,0,none⟩ u0).setCell ⟨p,1,none⟩ u1).setCell ⟨p,2,none⟩ (.slice none 0 0)).setCell ⟨p,3,none⟩ (.slice none 0 0)).setCell ⟨p,4,none⟩ (.int .i64 0)).setCell ⟨p,5,none⟩ (.int .i64 0)).heap[j]?=W.heap[j]?:=λ{j} hj=>by
  iterate 6 rw[bE _ _ _ _ (show j≠p from hj)]
 have K:∀e∈l.filter λe=>nPl e.2,e∈l/\e.1≠p:=λe I=>by
  obtain⟨h1,h2⟩:=List.mem_filter.1 I;refine⟨h1,λe1=>?_⟩;have h3:=(h.lg.at' e h1).2;rw[e1,h.lg.get m4,oI]at h3;rw[<-h3]at h2;simp[nPl]at h2
 have V:p≠q:=h.ne _ m4;refine⟨⟨h.lg.kc.up O,λe I=>?_⟩,h.rd.above O h.gl h.bl,h.gl,h.bl,qA h.own λj hj=>U λe=>V ?_,λe I=>?_⟩
 ·rcases List.mem_cons.1 I with rfl|I
  ·exact⟨hp,M (M (M (M (M (M (h.lg.get m4))))))⟩
  ·exact⟨(h.lg.at' e (K e I).1).1,(U (K e I).2).trans (h.lg.at' e (K e I).1).2⟩
 ·simp only[Value.ownBlock,Option.some.injEq]at hj;omega
 ·rcases List.mem_cons.1 I with rfl|I
  ·exact V
  ·exact h.ne e (K e I).1
def Fx1(g:Nat)(a:Option Addr)(n cap k:Nat)(W0 W:World)(bag:List Int)(lx:Nat)(x:Int)(r:Nat):Prop:=∃z q m c k2 k3,z < lx/\m=lx - z/\Fn g a n cap k W0 W q m c ((bag.drop z).map (Value.int .i64)) x r k2 k3
theorem Lq.leaf{bag:List Int}{I z:Nat}(h:Lq g a n cap k W0 W q (I - z) c ((bag.drop z).map (Value.int .i64)) l)(V:z < I){p M:Nat}(e:p=M)(O:(M,.cells #[.slice (some ⟨k2,0,none⟩) 1 1,.slice (some ⟨k3,0,none⟩) 1 1,.slice none 0 0,.slice none 0 0,.int .i64 0,.int .i64 0] 30 (0,0))∈l)(U:(k2,.cells #[.slice (some ⟨q,0,none⟩) (I - z) c] 25 (0,0))∈l)(K:(k3,.cells #[.int .i64 x] 3 (0,0))∈l):
 Fx1 g a n cap k W0 W bag I x p:=by
 subst e;exact⟨z,q,_,c,k2,k3,V,rfl,h.lg.kc,h.rd,h.own,(h.lg.at' _ O).1,h.lg.get O,kV (h.lg.at' _ U).1 (h.lg.get U),kV (h.lg.at' _ K).1 (h.lg.get K),h.ne _ K⟩
end
theorem bxC{p:Nat}{u2 u3 u4 u5:Value}(h:W.heap[p]?=some (.cells #[u0,u1,u2,u3,u4,u5] 30 (0,0))):W.cell? ⟨p,0,none⟩=some u0/\W.cell? ⟨p,1,none⟩=some u1/\W.cell? ⟨p,2,none⟩=some u2/\W.cell? ⟨p,3,none⟩=some u3/\W.cell? ⟨p,4,none⟩=some u4/\W.cell? ⟨p,5,none⟩=some u5/\W.frozen? ⟨p,0,none⟩=false/\W.frozen? ⟨p,1,none⟩=false/\W.frozen? ⟨p,2,none⟩=false/\W.frozen? ⟨p,3,none⟩=false/\W.frozen? ⟨p,4,none⟩=false/\W.frozen? ⟨p,5,none⟩=false:=by
 have I:∀o,W.frozen? ⟨p,o,none⟩=false:=λo=>by unfold World.frozen?;rw[show W.heap[p]?=_ from h];simp
 refine⟨?_,?_,?_,?_,?_,?_,I 0,I 1,I 2,I 3,I 4,I 5⟩;all_goals(rw[cell_of_row _ _ _ _ _ _ h];rfl)
theorem Y7(s o:List Int):∀n p:Nat,p+n<=o.length->-1<=jh s o n p/\jh s o n p<=(o.length:Int)
 |0,p,_=>by unfold jh;omega
 |n+1,p,h=>by
  unfold jh;have:=Y7 s o n (p+1) Oo;split <;> omega
theorem Y8(s o:List Int)(p:Nat):-1<=qu s o p/\qu s o p<=(o.length:Int):=by
 by_cases h:p<=o.length
 ·exact Y7 s o _ p Oo
 ·rw[Z4 s o Oo];omega
theorem yW(h:l.Pairwise (·< ·))(hb:∀x∈l,0<=x/\x < 6):qL l=true:=vj λi hi=>by
 have K:l.getD i 0=l[i]:=by rw[gD,bC hi];rfl
 have I:=hb _ (gM hi);rw[<-K]at I;unfold zc;rw[bA,bA,Bool.or_eq_true,dE,dE,dE,dE];refine⟨⟨I.1,I.2⟩,?_⟩;by_cases e:i=0
 ·exact Or.inl e
 ·refine Or.inr ?_;have M:l.getD (i - 1) 0=l[i - 1]:=by rw[gD,bC Oo];rfl
  rw[K,M];exact List.pairwise_iff_getElem.1 h (i - 1) i Oo hi Oo
theorem qDy(h:qL l=true):l.Pairwise (·< ·)/\∀x∈l,0<=x/\x < 6:=by
 have K:∀j,(I:j < l.length)->l.getD j 0=l[j]:=λj I=>by rw[gD,bC I];rfl
 refine⟨List.pairwise_iff_getElem.2 λi j hi I M=>?_,λx O=>?_⟩
 ·have:=Yg h j I i M;rw[K i hi,K j I]at this;exact this
 ·obtain⟨i,hi,rfl⟩:=gO O;have:=x9 h hi;rw[K i hi]at this;exact⟨this.1,this.2.1⟩
theorem qCg{b:List Int}(h:GoodBag es b)(z:Nat):GoodBag es (b.drop z):=by
 obtain⟨M,O⟩:=qDy h.set;refine⟨yW (M.sublist (List.drop_sublist _ _)) λx I=>O x (List.mem_of_mem_drop I),?_⟩;have K:=h.cov;unfold ql at K ⊢;rw[bY]at K ⊢;exact λx I=>K x (List.mem_of_mem_drop I)
theorem qDz(h:xw (k:Int) es=true):GoodBag es (upN k):=by
 obtain⟨O,-,I⟩:=Vl h;refine⟨yW ?_ λx K=>?_,?_⟩
 ·unfold upN;exact List.pairwise_map.2 (List.pairwise_lt_range.imp λh=>Int.ofNat_lt.2 h)
 ·have:=y7.1 K;omega
 ·unfold ql;rw[bY];intro x K;have:=y7.1 K;have M:=I x.toNat Oo;rw[show((x.toNat:Nat):Int)=x by omega]at M;exact M
def ISU(w:World)(v:Value)(us:List Value)(ls:List (List Int)):Prop:=∃a cap,v=.slice a ls.length cap/\(ls.length=0∨∃b o,a=some ⟨b,o,none⟩/\∀j,j < ls.length->w.cell? ⟨b,o+j,none⟩=some (us.getD j undef)/\ISc w (us.getD j undef) (ls.getD j []))
theorem ISU.iss {w : World} {v : Value} {us : List Value} {ls : List (List Int)} (h : ISU w v us ls) : ISS w v ls := by
  obtain ⟨a, cap, rfl, h1⟩ := h
  refine ⟨a, cap, rfl, ?_⟩
  rcases h1 with h1 | ⟨b, o, rfl, h1⟩
  · exact Or.inl h1
  · exact Or.inr ⟨b, o, rfl, fun j hj => ⟨_, (h1 j hj).1, (h1 j hj).2.1⟩⟩
structure PlD(W:World)(es:List (List Int))(vB vP vH:Value)(us:List Value)(bs:List (List Int))(ps hs:List Int):Prop where
 b:ISU W vB us bs
 p:IS W vP ps
 h:IS W vH hs
 bl:0 < bs.length/\bs.length<=13
 pl:ps.length=bs.length
 hl:hs.length=es.length
 good:∀b∈bs,GoodBag es b/\1<=b.length
theorem RL.isu(h:RL W B v us ls):ISU W v us ls:=by
 rcases h.own.2 with ⟨rfl,I⟩|⟨g,cap,cur,rfl,-,M,O,U,V,h4⟩
 ·exact⟨none,0,by rw[I],Or.inl I⟩
 ·refine⟨_,cap,rfl,Or.inr ⟨g,0,rfl,λj K=>⟨?_,qK (h.each j K),YE (h.each j K)⟩⟩⟩;rw[Nat.zero_add,h.own.cellAt j Oo,gD,bC (by have:=h.len;omega)];rfl
theorem PlS.fz {W : World} {B : Nat} {vB vP vH : Value} {vs : List Value} {bs : List (List Int)} {ps hs : List Int} (h : PlS W B vB vs bs vP ps vH hs) : Fz B (fun X => ISU X vB vs bs ∧ IS X vP ps ∧ IS X vH hs) W := fun W' hW' => by
  have ho : ∀ {k s : Nat} {e : TypeId} {u : Value} {xs : List Value}, W.ownsRow B e s u k xs → W'.ownsRow B e s u k xs := fun hx => qA hx fun c hc => hW' c (hx.lt c hc).1 (hx.lt c hc).2
  exact ⟨RL.isu ⟨ho h.rl.own, h.rl.len, fun i hi => ho (h.rl.each i hi)⟩, qK (ho h.ownP), qK (ho h.ownH)⟩
theorem qD0(hp:xw (k:Int) es=true)(K:uZ (k:Int) o=true)(M:1<=k)(h:ISU X vB us (zk es o k)/\IS X vP (xO es o k)/\IS X vH (zL es o es.length)):PlD X es vB vP vH us (zk es o k) (xO es o k) (zL es o es.length):=by
 have I:=U4 hp K;have O:=I.k6;refine⟨h.1,h.2.1,h.2.2,by rw[xy];omega,by rw[xy,Yq],by simp[zL],λb hb=>?_⟩;unfold zk at hb;obtain⟨i,hi,rfl⟩:=List.mem_map.1 hb;exact U6 I (List.mem_range.1 hi)
theorem qFB(hp:xw (k:Int) es=true)(M:uZ (k:Int) o=true):(∀x∈xO es o k,-1<=x/\x<=1000)/\∀x∈zL es o es.length,-1<=x/\x<=1000:=by
 have K:=U4 hp M;have hl:=K.len;have O:=K.k6;refine⟨λx I=>?_,λx I=>?_⟩
 ·unfold xO at I;obtain⟨i,hi,rfl⟩:=List.mem_map.1 I;have:=Y8 (zw es o i) o (i+1);omega
 ·unfold zL at I;obtain⟨i,hi,rfl⟩:=List.mem_map.1 I;have:=Y8 (es.getD i []) o 0;omega
theorem qD1(hp:xw (k:Int) es=true)(I:1<=k){B':Nat}(K:X.ownsRow B 3 1 u k ((upN k).map (Value.int .i64)))(M:X.ownsRow B 25 1 vB 1 [u])(O:X.ownsRow B 3 1 vP 1 [.int .i64 (-1)])(U:X.ownsRow B' 3 1 vH hs.length (hs.map (Value.int .i64)))(hl:hs.length=es.length):PlD X es vB vP vH [u] [upN k] [-1] hs:=by
 refine⟨RL.isu (B:=B) ⟨M,rfl,λi hi=>?_⟩,qK O,qK U,Ss,rfl,hl,λb hb=>?_⟩
 ·obtain rfl:i=0:=by simpa using hi
  show X.ownsRow B 3 1 u (upN k).length _;rw[uI];exact K
 ·rw[List.mem_singleton]at hb;subst hb;exact⟨qDz hp,by rw[uI];exact I⟩
theorem Rdr.kcp {W W' : World} {g p : Nat} {a : Option Addr} {n cap k : Nat} (h : Rdr W g a n cap k) (hk : Kc p W W') (hg : g < p) (hbl : ∀ b o, a = some ⟨b, o, none⟩ → 0 < n → b < p) : Rdr W' g a n cap k := by
  obtain ⟨k', sd, h1, h2⟩ := h
  exact ⟨k', sd, h1, h2.other (hk.block g (World.block_lt_of_cell? W _ h2.c0) (by omega)) (fun b o e hn => hk.block b (h2.byteLt e hn) (by have := hbl b o e hn; omega))⟩
structure DpS(w W:World)(g:Nat)(a:Option Addr)(n cap k:Nat)(es:List (List Int))(p:Nat)(vB vP vH vW:Value)(x y:Int)(us:List Value)(bs:List (List Int))(ps hs:List Int):Prop where
 kc:Kc g w W
 rd:Rdr W g a n cap k
 gl:g < w.heap.size
 bl:∀b o,a=some ⟨b,o,none⟩->0 < n->b < w.heap.size
 b6:W.heap[w.heap.size]?=some (.cells #[.slice none 0 0,.slice none 0 0,.slice none 0 0,.slice none 0 0,.int .i64 0,.int .i64 0] 30 (0,0))
 hp:w.heap.size < p
 bx:W.heap[p]?=some (.cells #[vB,vP,vH,vW,.int .i64 x,.int .i64 y] 30 (0,0))
 pl:Fx (w.heap.size+1) p (λX=>PlD X es vB vP vH us bs ps hs) W
theorem Fx.kc{p:Nat}{P:World->Prop}{w':World}(h:Fx B p P w)(K:Kc g w w')(V:g < B):Fx B p P w':=λW' I=>h W' λk O M U=>(I k O (bV M K.size) U).trans (K.block k M Oo)
theorem Fx.set{p q o:Nat}{P:World->Prop}(h:Fx B p P w)(hq:q=p∨q < B):Fx B p P (w.setCell ⟨q,o,none⟩ u):=λW' I=>h W' λk K M O=>(I k K (by simpa[World.setCell]using M) O).trans (bE _ _ _ _ (by show k≠q;omega))
section
variable {w W W':World} {g:Nat} {a:Option Addr} {n cap k l:Nat} {es:List (List Int)} {p:Nat} {vB vP vH vW:Value} {x y:Int} {us:List Value} {bs:List (List Int)} {ps hs:List Int}
theorem DpS.lt (h : DpS w W g a n cap k es p vB vP vH vW x y us bs ps hs) : p < W.heap.size := zv h.bx
theorem DpS.turn(h:DpS w W g a n cap k es p vB vP vH vW x y us bs ps hs)(I:Kc g W W')(hr:Rdr W' g a n cap l):DpS w W' g a n cap l es p vB vP vH vW x y us bs ps hs:=
 ⟨h.kc.trans I,hr,h.gl,h.bl,zu h.b6 I (by have:=h.gl;omega),h.hp,zu h.bx I (by have:=h.gl;have:=h.hp;omega),h.pl.kc I (by have:=h.gl;omega)⟩
theorem DpS.bel(h:DpS w W g a n cap k es p vB vP vH vW x y us bs ps hs)(hb:Bl W W'):DpS w W' g a n cap k es p vB vP vH vW x y us bs ps hs:=h.turn (Kc.ofBelow hb) (h.rd.below hb)
theorem DpS.now (h : DpS w W g a n cap k es p vB vP vH vW x y us bs ps hs) : PlD W es vB vP vH us bs ps hs := h.pl W fun _ _ _ _ => rfl
theorem DpS.cells (h : DpS w W g a n cap k es p vB vP vH vW x y us bs ps hs) : W.cell? ⟨p, 0, none⟩ = some vB ∧ W.cell? ⟨p, 1, none⟩ = some vP ∧ W.cell? ⟨p, 2, none⟩ = some vH ∧ W.cell? ⟨p, 3, none⟩ = some vW ∧ W.cell? ⟨p, 4, none⟩ = some (.int .i64 x) ∧ W.cell? ⟨p, 5, none⟩ = some (.int .i64 y) ∧ ∀ o, W.frozen? ⟨p, o, none⟩ = false := by
  refine ⟨?_, ?_, ?_, ?_, ?_, ?_, fun o => ?_⟩
  iterate 6 rw [cell_of_row _ _ _ _ _ _ h.bx]; rfl
  unfold World.frozen?; rw [show W.heap[p]? = _ from h.bx]; simp
theorem DpS.set6(h:DpS w W g a n cap k es p vB vP vH vW x y us bs ps hs)(u0 u1 u2 u3 u4 u5:Value):Below (w.heap.size+1) W ((((((W.setCell ⟨p,0,none⟩ u0).setCell ⟨p,1,none⟩ u1).setCell ⟨p,2,none⟩ u2).setCell ⟨p,3,none⟩ u3).setCell ⟨p,4,none⟩ u4).setCell ⟨p,5,none⟩ u5)/\((((((W.setCell ⟨p,0,none⟩ u0).setCell ⟨p,1,none⟩ u1).setCell ⟨p,2,none⟩ u2).setCell ⟨p,3,none⟩ u3).setCell ⟨p,4,none⟩ u4).setCell ⟨p,5,none⟩ u5).heap[p]?=some (.cells #[u0,u1,u2,u3,u4,u5] 30 (0,0))/\∀j,j≠p->((((((W.setCell ⟨p,0,none⟩ u0).setCell ⟨p,1,none⟩ u1).setCell ⟨p,2,none⟩ u2).setCell ⟨p,3,none⟩ u3).setCell ⟨p,4,none⟩ u4).setCell ⟨p,5,none⟩ u5).heap[j]?=W.heap[j]?:=by
 have hp:=h.hp;have hb:∀{X:World} {q:Nat} {u:Value},Below (w.heap.size+1) W X->Below (w.heap.size+1) W (X.setCell ⟨p,q,none⟩ u):=λ{X q u} hX=>hX.setCell (by show w.heap.size+1<=p;omega) _;have I:∀{X:World} {q:Nat} {u:Value} {A:Array Value},X.heap[p]?=some (.cells A 30 (0,0))->(X.setCell ⟨p,q,none⟩ u).heap[p]?=some (.cells (A.setIfInBounds q u) 30 (0,0)):=λ{X q u A} hX=>bJ _ _ _ _ _ _ hX;refine⟨hb (hb (hb (hb (hb (hb (bM _ _)))))),I (I (I (I (I (I h.bx))))),λj K=>?_⟩;iterate 6 rw[bE _ _ _ _ (show j≠p from K)]
theorem DpS.put3(h:DpS w W g a n cap k es p vB vP vH vW x y us bs ps hs)(u:Value)(I K:Int):DpS w (((W.setCell ⟨p,3,none⟩ u).setCell ⟨p,4,none⟩ (.int .i64 I)).setCell ⟨p,5,none⟩ (.int .i64 K)) g a n cap k es p vB vP vH u I K us bs ps hs:=by
 have hp:=h.hp;have hb:Below (w.heap.size+1) W (((W.setCell ⟨p,3,none⟩ u).setCell ⟨p,4,none⟩ (.int .i64 I)).setCell ⟨p,5,none⟩ (.int .i64 K)):=(((bM _ _).setCell (by show w.heap.size+1<=p;omega) _).setCell (by show w.heap.size+1<=p;omega) _).setCell (by show w.heap.size+1<=p;omega) _;have M:∀{X:World} {i:Nat} {u:Value} {A:Array Value},X.heap[p]?=some (.cells A 30 (0,0))->(X.setCell ⟨p,i,none⟩ u).heap[p]?=some (.cells (A.setIfInBounds i u) 30 (0,0)):=λ{X i u A} hX=>bJ _ _ _ _ _ _ hX;exact⟨h.kc.up (hb.mono Oo),h.rd.above (hb.mono (show w.heap.size<=_ by omega)) h.gl h.bl,h.gl,h.bl,(hb.block _ Oo).trans h.b6,hp,M (M (M h.bx)),((h.pl.set (Or.inl rfl)).set (Or.inl rfl)).set (Or.inl rfl)⟩
theorem DpS.fin(h:DpS w W g a n cap k es p vB vP vH vW x y us bs ps hs)(u0 u1 u2 u3 u4 u5:Value):Below w.heap.size W ((((((W.setCell ⟨w.heap.size,0,none⟩ u0).setCell ⟨w.heap.size,1,none⟩ u1).setCell ⟨w.heap.size,2,none⟩ u2).setCell ⟨w.heap.size,3,none⟩ u3).setCell ⟨w.heap.size,4,none⟩ u4).setCell ⟨w.heap.size,5,none⟩ u5)/\((((((W.setCell ⟨w.heap.size,0,none⟩ u0).setCell ⟨w.heap.size,1,none⟩ u1).setCell ⟨w.heap.size,2,none⟩ u2).setCell ⟨w.heap.size,3,none⟩ u3).setCell ⟨w.heap.size,4,none⟩ u4).setCell ⟨w.heap.size,5,none⟩ u5).heap[w.heap.size]?=some (.cells #[u0,u1,u2,u3,u4,u5] 30 (0,0)):=by
 have hb:∀{X:World} {q:Nat} {u:Value},Below w.heap.size W X->Below w.heap.size W (X.setCell ⟨w.heap.size,q,none⟩ u):=λ{X q u} hX=>hX.setCell (by exact bK _) _;have I:∀{X:World} {q:Nat} {u:Value} {A:Array Value},X.heap[w.heap.size]?=some (.cells A 30 (0,0))->(X.setCell ⟨w.heap.size,q,none⟩ u).heap[w.heap.size]?=some (.cells (A.setIfInBounds q u) 30 (0,0)):=λ{X q u A} hX=>bJ _ _ _ _ _ _ hX;exact⟨hb (hb (hb (hb (hb (hb (bM _ _)))))),I (I (I (I (I (I h.b6)))))⟩
end
structure QS(g:Nat)(a:Option Addr)(n cap k:Nat)(W0 W:World)(r:Nat)(vQ vR:Value)(uq:List Value)(pq:List Int)(qb m c:Nat)(xs:List Value):Prop where
 kc:Kc g W0 W
 rd:Rdr W g a n cap k
 gl:g < W0.heap.size
 bl:∀b o,a=some ⟨b,o,none⟩->0 < n->b < W0.heap.size
 hr:W0.heap.size<=r
 bx:W.heap[r]?=some (.cells #[vQ,vR,.slice none 0 0,.slice none 0 0,.int .i64 0,.int .i64 0] 30 (0,0))
 oQ:W.ownsRow W0.heap.size 25 1 vQ uq.length uq
 oR:W.ownsRow W0.heap.size 3 1 vR pq.length (pq.map (Value.int .i64))
 oX:W.ownsRow W0.heap.size 3 1 (.slice (some ⟨qb,0,none⟩) m c) m xs
 ne:vR.ownBlock≠some qb
section
variable {g:Nat} {a:Option Addr} {n cap k:Nat} {W0 W w3:World} {r:Nat} {vQ vR v' u:Value} {uq:List Value} {pq:List Int} {qb m c:Nat} {xs:List Value} {o:Obj} {x:Int}
theorem Fn.qs{z:Int}(h:Fn g a n cap k W0 W qb m c xs z r k2 k3)(gl:g < W0.heap.size)(bl:∀b o,a=some ⟨b,o,none⟩->0 < n->b < W0.heap.size):QS g a n cap k W0 W r (.slice (some ⟨k2,0,none⟩) 1 1) (.slice (some ⟨k3,0,none⟩) 1 1) [.slice (some ⟨qb,0,none⟩) m c] [z] qb m c xs:=
 ⟨h.kc,h.rd,gl,bl,h.hp,h.bx,h.b2,h.b3,h.own,λe=>h.ne (by simpa[Value.ownBlock]using e)⟩
theorem QS.turn(h:QS g a n cap k W0 W r vQ vR uq pq qb m c xs)(hb:Below W0.heap.size W w3):Kc g W0 (w3.setCell ⟨r,i,none⟩ v')/\Rdr (w3.setCell ⟨r,i,none⟩ v') g a n cap k:=by
 have hr:=h.hr;have I:Below W0.heap.size W (w3.setCell ⟨r,i,none⟩ v'):=hb.setCell (by exact hr) _;exact⟨h.kc.up I,h.rd.above I h.gl h.bl⟩
theorem QS.pushQ(h:QS g a n cap k W0 W r vQ vR uq pq qb m c xs)(U:(W.alloc o).grownBy w3 vQ.ownBlock)(I:w3.ownsRow W0.heap.size 25 1 v' (uq.length+1) (uq++[u])):QS g a n cap k W0 (w3.setCell ⟨r,0,none⟩ v') r v' vR (uq++[u]) pq qb m c xs:=by
 have hs:=h.kc.size;have hb:Below W0.heap.size W w3:=((bM _ _).alloc hs _).grown U (by simp;omega) (λj K=>(h.oQ.lt j K).1);obtain⟨h1,h2⟩:=h.turn (v':=v') (i:=0) hb;have M:w3.heap[r]?=W.heap[r]?:=zI U (zv h.bx) (own_ne h.oQ ⟨_,h.bx⟩ Dd)
 have V:∀{s B l:Nat} {v:Value} {ys:List Value},W.ownsRow B 3 s v l ys->(w3.setCell ⟨r,0,none⟩ v').ownsRow B 3 s v l ys:=λ{s B l v ys} hv=>qA hv λj K=>by
  have h3:w3.heap[j]?=W.heap[j]?:=zI U (hv.lt j K).2 (own_ne h.oQ (qO hv K) Dd);rw[<-h3];refine bE _ _ _ _ (λe=>?_);obtain⟨cur,O⟩:=qO hv K;rw[show j=r from e,h.bx]at O;cases O
 refine⟨h1,h2,h.gl,h.bl,h.hr,by rw[bJ _ _ _ _ _ _ (M.trans h.bx)];rfl,?_,V h.oR,V h.oX,h.ne⟩;rw[lA];refine qA I λj K=>bE _ _ _ _ (λe=>?_);obtain⟨cur,O⟩:=qO I K;rw[show j=r from e,M,h.bx]at O;cases O
theorem QS.pushR{g3 O c3:Nat}(h:QS g a n cap k W0 W r vQ vR uq pq qb m c xs)(U:(W.alloc o).grownBy w3 vR.ownBlock)(K:w3.ownsRow W0.heap.size 3 1 (.slice (some ⟨g3,0,none⟩) O c3) (pq.length+1) (pq.map (Value.int .i64)++[.int .i64 x]))(V:vR.ownBlock=some g3∨g3=(W.alloc o).heap.size):QS g a n cap k W0 (w3.setCell ⟨r,1,none⟩ (.slice (some ⟨g3,0,none⟩) O c3)) r vQ (.slice (some ⟨g3,0,none⟩) O c3) uq (pq++[x]) qb m c xs:=by
 have hs:=h.kc.size;have hb:Below W0.heap.size W w3:=((bM _ _).alloc hs _).grown U (by simp;omega) (λj I=>(h.oR.lt j I).1);obtain⟨h1,h2⟩:=h.turn (v':=.slice (some ⟨g3,0,none⟩) O c3) (i:=1) hb;have M:w3.heap[r]?=W.heap[r]?:=zI U (zv h.bx) (own_ne h.oR ⟨_,h.bx⟩ Dd)
 have hr:∀{t:TypeId} {X:World} {s B l:Nat} {v:Value} {ys:List Value},X.ownsRow B t s v l ys->X.heap[r]?=W.heap[r]?->t≠30->∀j,v.ownBlock=some j->j≠r:=λ{t X s B l v ys} hv hX ht j I e=>by
  obtain⟨cur,hc⟩:=qO hv I;rw[e,hX,h.bx]at hc;cases hc
  exact ht rfl
 refine⟨h1,h2,h.gl,h.bl,h.hr,by rw[bJ _ _ _ _ _ _ (M.trans h.bx)];rfl,?_,?_,?_,?_⟩
 ·exact qA h.oQ λj I=>(bE _ _ _ _ (hr h.oQ rfl Dd j I)).trans (zI U (h.oQ.lt j I).2 (own_ne h.oR (qO h.oQ I) Dd))
 ·rw[lA,mA];exact qA K λj I=>bE _ _ _ _ (hr K M Dd j I)
 ·refine qA h.oX λj I=>(bE _ _ _ _ (hr h.oX rfl Dd j I)).trans (zI U (h.oX.lt j I).2 (λe=>h.ne (e.symm.trans (I.symm.trans rfl))))
 ·intro e;simp only[Value.ownBlock,Option.some.injEq]at e;rcases V with h3|h3
  ·exact h.ne (by rw[h3,e])
  ·have:=(h.oX.lt qb rfl).2;rw[World.size_alloc]at h3;omega
theorem QS.plan{bs:List (List Int)}{vS:Value}{ps hq O:List Int}(h:QS g a n cap k W0 W r vQ vR uq pq qb m c (O.map (Value.int .i64)))(hX:∀j,W0.heap.size<=j->j < W.heap.size->j≠r->X.heap[j]?=W.heap[j]?)(hO:PlD X es vB vP vH us bs ps hs)(oS:X.ownsRow B 3 1 vS hq.length (hq.map (Value.int .i64)))
 (l0:O.length=m) (g0:GoodBag es O) (p0:1<=O.length) (l1:uq.length=bs.length+1) (l2:pq.length=bs.length+1) (l3:hq.length=es.length) (l4:bs.length < 12) (hu:∀i,i < bs.length->uq.getD (i+1) undef=us.getD i undef) (a2:uq.getD 0 undef=.slice (some ⟨qb,0,none⟩) m c):PlD X es vQ vR vS uq (O::bs) pq hq:=by
 have M:∀{t:TypeId} {s l:Nat} {v:Value} {ys:List Value},W.ownsRow W0.heap.size t s v l ys->t≠30->X.ownsRow W0.heap.size t s v l ys:=λ{t s l v ys} hv ht=>qA hv λj K=>hX j (hv.lt j K).1 (hv.lt j K).2 λe=>by
  obtain⟨cur,hc⟩:=qO hv K;rw[e,h.bx]at hc;cases hc
  exact ht rfl
 have oQ:=M h.oQ Dd;have oX:=M h.oX Dd;refine⟨?_,qK (M h.oR Dd),qK oS,by simp;omega,by rw[l2];rfl,l3,λb hb=>?_⟩
 ·rcases oQ.2 with ⟨-,hn⟩|⟨g2,U,cur,rfl,-,-,a3,-⟩
  ·omega
  ·refine⟨_,U,by rw[l1];rfl,Or.inr ⟨g2,0,rfl,λj K=>⟨?_,?_⟩⟩⟩
   ·have I:j < uq.length:=by rw[l1];simpa using K
    rw[Nat.zero_add,oQ.cellAt j Oo,gD,bC I];rfl
   ·match j,K with
    |0,_=>
     rw[a2];rw[<-l0]at oX ⊢;exact⟨qK oX,YE oX⟩
    |j+1,K=>
     have I:j < bs.length:=by simpa using K
     rw[hu j I];obtain⟨a',c',-,V⟩:=hO.b;rcases V with V|⟨b,o,-,V⟩
     ·omega
     ·exact(V j I).2
 ·rcases List.mem_cons.1 hb with rfl|hb
  ·exact⟨g0,p0⟩
  ·exact hO.good b hb
end
def DpE(w:World)(g:Nat)(a:Option Addr)(n cap k:Nat)(e:Ending)(w':World):Prop:=(∃a0 n0 c0 a1 n1 c1 a2 n2 c2 a3 n3 c3 x y,e=.returned (.agg #[.slice a0 n0 c0,.slice a1 n1 c1,.slice a2 n2 c2,.slice a3 n3 c3,.int .i64 x,.int .i64 y]))/\Kc g w w'/\Rdr w' g a n cap (k+100)
def DpC:Prop:=∀(w:World) (g:Nat) (a:Option Addr) (n cap k q:Nat),Rdr w g a n cap k->n<=1048576->k<=100000->∀(aE:Option Addr) (cE:Nat) (es:List (List Int)),(∀W,Kc g w W->ISS W (.slice aE es.length cE) es)->zS es->xw (q:Int) es=true->1<=q->0 < es.length->
 Cl 14 #[.pointer (some ⟨g,0,none⟩),.int .i64 q,.slice aE es.length cE] w (DpE w g a n cap k)
theorem hpA {W : World} {p : Nat} {o : Obj} (h : W.heap[p]? = some o) (ob : Obj) : (W.alloc ob).heap[p]? = some o := (Below.heap_alloc _ _ _ (zv h)).trans h
end Go.Proofs.YtkaipapdlnojiaaGreat
