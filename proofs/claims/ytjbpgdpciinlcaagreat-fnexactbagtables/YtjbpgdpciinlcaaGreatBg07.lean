import Derived.Test.YtjbpgdpciinlcaaGreatBg06
set_option maxHeartbeats 40000000
set_option maxRecDepth 1000000
namespace Go.Proofs.YtjbpgdpciinlcaaGreat
open Go.RowKit
variable {x y:Int}{l p q r s:List Int}{B g n o:Nat}{v:Value}{W W' a b c w:World}
theorem Vj(w:World)(g cap:Nat)(l:List Int)(k:Int)(h:OwnI w g l)(hl:l.length<=1099511627776)(hk:0<=k)(hk':k<=1099511627776):
 Cl 38 #[.slice (some ⟨g,0,none⟩) l.length cap,.int .i64 k] w fun e w'=>e=.returned (.int .i64 (k+l.length))/\OwnI w' g (jC k l.length)/\Og g w w':=by
 obtain⟨n,hn⟩:∃n,n=l.length:=⟨_,rfl⟩;have HO:Hid ((∀j,j < n->w.cell? ⟨g,j,none⟩=some (.int .i64 (l.getD j 0)))/\∀j,j < n->w.frozen? ⟨g,j,none⟩=false):=by rw[hn];exact⟨h.cell,h.free⟩
 have hglt:=h.lt;rw[<-hn]at hl ⊢;clear h hn;go_enter Tryz.func38,Tryz.ntmps38
 go_wp2;go_loopw [1,5] (fun u t wr=>∃j:Nat,j<=n/\t=.int .i64 j/\u=.int .i64 (k+j)/\Og g w wr/\Hid ((∀i,i < n->wr.cell? ⟨g,i,none⟩=some (.int .i64 (if i < j then k+(i:Nat) else l.getD i 0)))/\∀i,i < n->wr.frozen? ⟨g,i,none⟩=false)) (fun _ t _=>n - (intOf t).toNat)
 case atStart=>exact⟨0,nZ _,rfl,by simp,Og.refl _ _,hid ⟨fun i hi=>by rw[if_neg (by omega)];exact HO.out.1 i hi,HO.out.2⟩⟩
 case round=>
  obtain⟨j,hj,rfl,rfl,hB,hH⟩:=hrel;by_cases hjn:j < n
  ·have i1:(j:Int) < (n:Int):=by omega
   have c2:wr.cell? ⟨g,j,none⟩=some (.int .i64 (if j < j then k+(j:Nat) else l.getD j 0)):=hH.out.1 j hjn;have c3:wr.frozen? ⟨g,j,none⟩=false:=hH.out.2 j hjn;go_wp2;go_roundw
   case rel=>
    refine⟨j+1,by omega,by go_num,by go_num,hB.set _ _,hid ⟨fun i hi=>?_,fun i hi=>by rw[fS];exact hH.out.2 i hi⟩⟩;by_cases e:i=j
    ·subst e;rw[if_pos (by omega)];exact bF _ _ _ c2
    ·rw[bC _ _ _ _ (by intro e2;simp only[Addr.mk.injEq]at e2;omega),hH.out.1 i hi];by_cases e2:i < j
     ·rw[if_pos e2,if_pos (by omega)]
     ·rw[if_neg e2,if_neg (by omega)]
   case measure=>simp[intOf];omega
  ·obtain rfl:j=n:=by omega
   have i1:¬((j:Int) < (j:Int)):=by omega
   go_wp2;go_ret;refine⟨rfl,⟨fun i hi=>?_,fun i hi=>hH.out.2 i (by rwa[vU]at hi),by rw[hB.size];exact hglt⟩,hB⟩;rw[vU]at hi;rw[hH.out.1 i hi,if_pos hi,Zh hi]
theorem Vk(w:World)(g cap:Nat)(n:Nat)(k:Int)(h:OwnI w g (jC k n))(hl:n<=1099511627776)(hk:0<=k)(hk':k<=1099511627776):
 Cl 41 #[.slice (some ⟨g,0,none⟩) n cap,.int .i64 k] w fun e w'=>e=.returned (.int .i64 (k+n))/\w'=w:=by
 have HO:Hid (∀j,j < n->w.cell? ⟨g,j,none⟩=some (.int .i64 (k+(j:Nat)))):=fun j hj=>by
  have:=h.cell j (by rw[vU];exact hj);rwa[Zh hj]at this
 clear h;go_enter Tryz.func41,Tryz.ntmps41
 go_wp2;go_loop [1,5] (fun u t=>∃j:Nat,j<=n/\t=.int .i64 j/\u=.int .i64 (k+j)) (fun _ t=>n - (intOf t).toNat)
 case atStart=>exact⟨0,nZ _,rfl,by simp⟩
 case round=>
  obtain⟨j,hj,rfl,rfl⟩:=hrel;by_cases hjn:j < n
  ·have i1:(j:Int) < (n:Int):=by omega
   have c2:w.cell? ⟨g,j,none⟩=some (.int .i64 (k+(j:Nat))):=HO.out j hjn;have hne:((k+(j:Int)) != (k+(j:Int)))=false:=by simp
   go_wp2;go_round
   case rel=>exact⟨j+1,by omega,by go_num,by go_num⟩
   case measure=>simp[intOf];omega
  ·obtain rfl:j=n:=by omega
   have i1:¬((j:Int) < (j:Int)):=by omega
   go_wp2;go_ret;exact⟨rfl,rfl⟩
theorem qC{w':World}{s:Nat}{e:TypeId}{xs:List Value}(h:w.ownsRow B e s v n xs)(hb:∀g,v.ownBlock=some g->w'.heap[g]?=w.heap[g]?):w'.ownsRow B e s v n xs:=by
 obtain⟨h1,h2⟩:=h;refine⟨h1,?_⟩;rcases h2 with h2|⟨g,cap,cur,rfl,hb',hc,hr⟩
 ·exact Or.inl h2
 ·exact Or.inr ⟨g,cap,cur,rfl,hb',(hb g rfl).trans hc,hr⟩
theorem qW(h:w.ownsRow B 3 1 v l.length (l.map (Value.int .i64))):IS w v l:=by
 rcases h.2 with ⟨rfl,h2⟩|⟨g,cap,cur,rfl,hb',hc,hr⟩
 ·exact⟨none,0,by rw[h2],Or.inl h2⟩
 ·refine⟨_,cap,rfl,Or.inr ⟨g,0,rfl,fun j hj=>?_⟩⟩;rw[Nat.zero_add,h.cellAt j (by omega),bJ,gE hj,gD,gE hj];rfl
theorem qBr{cap:Nat}(h:w.ownsRow B 3 1 (.slice (some ⟨g,0,none⟩) l.length cap) l.length (l.map (Value.int .i64))):OwnI w g l where
 cell j hj:=by
  rw[h.cellAt j (by omega),bJ,gE hj,gD,gE hj];rfl
 free j _:=h.frozenAt j
 lt:=(h.lt g rfl).2
theorem Vl(w:World)(a:Option Addr)(cap:Nat)(k:Int):
 Cl 38 #[.slice a 0 cap,.int .i64 k] w fun e w'=>e=.returned (.int .i64 k)/\w'=w:=by
 go_enter Tryz.func38,Tryz.ntmps38
 go_wp2;refine wp_loop_rounds 1 ?_;rw[rounds_succ];go_wp2;go_ret;exact⟨rfl,rfl⟩
theorem Vm(w:World)(a:Option Addr)(cap:Nat)(k:Int):
 Cl 41 #[.slice a 0 cap,.int .i64 k] w fun e w'=>e=.returned (.int .i64 k)/\w'=w:=by
 go_enter Tryz.func41,Tryz.ntmps41
 go_wp2;refine wp_loop_rounds 1 ?_;rw[rounds_succ];go_wp2;go_ret;exact⟨rfl,rfl⟩
structure Fr(lo hi:Nat)(w w':World):Prop where
 os:w'.os=w.os
 tape:w'.tape=w.tape
 output:w'.output=w.output
 size:w.heap.size<=w'.heap.size
 block:∀b,b < w.heap.size->(b < lo∨hi<=b)->w'.heap[b]?=w.heap[b]?
theorem Fr.refl(lo hi:Nat)(w:World):Fr lo hi w w:=⟨rfl,rfl,rfl,nR _,fun _ _ _=>rfl⟩
theorem Fr.trans{lo hi:Nat}(h:Fr lo hi a b)(k:Fr lo hi b c):Fr lo hi a c:=
 ⟨k.os.trans h.os,k.tape.trans h.tape,k.output.trans h.output,bK h.size k.size,fun x hx hg=>(k.block x (bM hx h.size) hg).trans (h.block x hx hg)⟩
theorem Fr.bel{lo hi:Nat}(h:Fr lo hi a b)(k:Bl b c):Fr lo hi a c:=
 h.trans ⟨k.os,k.tape,k.output,k.size,fun x hx _=>k.block x hx⟩
theorem Fr.set{lo hi:Nat}(h:Fr lo hi a b)(h1:lo<=g)(h2:g < hi):Fr lo hi a (b.setCell ⟨g,o,none⟩ v):=
 h.trans ⟨rfl,rfl,rfl,by simp[World.setCell],fun x _ hg=>bD _ _ _ _ (by show x≠g;omega)⟩
structure Mk(lo hi:Nat)(w w':World):Prop where
 fr:Fr lo hi w w'
 num:∀b q x,w.cell? ⟨b,q,none⟩=some (.int .i64 x)->∃y,w'.cell? ⟨b,q,none⟩=some (.int .i64 y)
 str:∀b q x,w.cell? ⟨b,q,none⟩=some (.string x)->∃y,w'.cell? ⟨b,q,none⟩=some (.string y)
 sl:∀b q a n c,w.cell? ⟨b,q,none⟩=some (.slice a n c)->w'.cell? ⟨b,q,none⟩=some (.slice a n c)
 froz:∀b q,b < w.heap.size->w.frozen? ⟨b,q,none⟩=false->w'.frozen? ⟨b,q,none⟩=false
section
variable {lo hi:Nat} {a b c:World}
theorem Mk.refl(lo hi:Nat)(a:World):Mk lo hi a a:=⟨Fr.refl _ _ _,fun _ _ x h=>⟨x,h⟩,fun _ _ x h=>⟨x,h⟩,fun _ _ _ _ _ h=>h,fun _ _ _ h=>h⟩
theorem Mk.trans(h:Mk lo hi a b)(k:Mk lo hi b c):Mk lo hi a c:=
 ⟨h.fr.trans k.fr,fun x q u e=>by obtain⟨y,e2⟩:=h.num x q u e;exact k.num x q y e2,fun x q u e=>by obtain⟨y,e2⟩:=h.str x q u e;exact k.str x q y e2,fun x q u n m e=>k.sl x q u n m (h.sl x q u n m e),fun x q e f=>k.froz x q (bM e h.fr.size) (h.froz x q e f)⟩
theorem qCL{x q:Nat}{u:Value}(h:Bl W W')(e:W.cell? ⟨x,q,none⟩=some u):W'.cell? ⟨x,q,none⟩=some u:=(h.cell (p:=⟨x,q,none⟩) (bL W _ e)).trans e
theorem Mk.of_below(h:Bl a b):Mk lo hi a b:=
 ⟨(Fr.refl lo hi a).bel h,fun _ _ u e=>⟨u,qCL h e⟩,fun _ _ u e=>⟨u,qCL h e⟩,fun _ _ _ _ _ e=>qCL h e,fun x q e f=>(h.frozen (p:=⟨x,q,none⟩) e).trans f⟩
theorem Mk.setI(h:a.cell? ⟨g,o,none⟩=some (.int .i64 x))(h1:lo<=g)(h2:g < hi):Mk lo hi a (a.setCell ⟨g,o,none⟩ (.int .i64 y)):=by
 have ne:∀{b q:Nat} {u:Value},a.cell? ⟨b,q,none⟩=some u->(b=g/\q=o)∨(a.setCell ⟨g,o,none⟩ (.int .i64 y)).cell? ⟨b,q,none⟩=some u:=fun {b q u} e=>by
  by_cases e2:b=g/\q=o
  ·exact Or.inl e2
  ·exact Or.inr ((bC _ _ _ _ (by intro e3;simp only[Addr.mk.injEq]at e3;exact e2 ⟨by omega,by omega⟩)).trans e)
 refine⟨(Fr.refl lo hi a).set h1 h2,fun b q u e=>?_,fun b q u e=>?_,fun b q u n m e=>?_,fun b q _ f=>by rw[fS];exact f⟩
 ·rcases ne e with ⟨rfl,rfl⟩|e2
  ·exact⟨y,bF _ _ _ h⟩
  ·exact⟨u,e2⟩
 ·rcases ne e with ⟨rfl,rfl⟩|e2
  ·rw[h]at e;cases e
  ·exact⟨u,e2⟩
 ·rcases ne e with ⟨rfl,rfl⟩|e2
  ·rw[h]at e;cases e
  ·exact e2
end
structure ShI(lo hi:Nat)(W:World)(g n:Nat):Prop where
 lo:lo<=g
 hi:g < hi
 lt:g < W.heap.size
 cell:∀j,j < n->∃x,W.cell? ⟨g,j,none⟩=some (.int .i64 x)
 free:∀j,j < n->W.frozen? ⟨g,j,none⟩=false
theorem ShI.kp{lo hi:Nat}(h:ShI lo hi W g n)(k:Mk lo hi W W'):ShI lo hi W' g n:=
 ⟨h.lo,h.hi,bM h.lt k.fr.size,fun j hj=>by obtain⟨x,e⟩:=h.cell j hj;exact k.num _ _ _ e,fun j hj=>k.froz _ _ h.lt (h.free j hj)⟩
theorem OwnI.sh{lo hi:Nat}(h:OwnI W g l)(h1:lo<=g)(h2:g < hi):ShI lo hi W g l.length:=⟨h1,h2,h.lt,fun j hj=>⟨_,h.cell j hj⟩,h.free⟩
theorem yB(w:World)(lo hi g n cap k:Nat)(h:ShI lo hi w g n)(hn:n<=1048576)(hk:k<=1099511627776):
 Cl 38 #[.slice (some ⟨g,0,none⟩) n cap,.int .i64 (k:Int)] w fun e w'=>e=.returned (.int .i64 ((k+n:Nat):Int))/\Mk lo hi w w':=by
 have HS:=hid h;clear h;go_enter Tryz.func38,Tryz.ntmps38
 go_wp2;go_loopw [1,5] (fun u t wr=>∃j:Nat,j<=n/\t=.int .i64 j/\u=.int .i64 ((k+j:Nat):Int)/\Hid (Mk lo hi w wr)) (fun _ t _=>n - (intOf t).toNat)
 case atStart=>exact⟨0,nZ _,rfl,rfl,hid (Mk.refl _ _ _)⟩
 case round=>
  obtain⟨j,hj,rfl,rfl,HM⟩:=hrel;by_cases hjn:j < n
  ·have i1:(j:Int) < (n:Int):=by omega
   have hS:=HS.out.kp HM.out;obtain⟨x,c2⟩:=hS.cell j hjn;have c3:=hS.free j hjn;have HN:Hid (∀y:Int,Mk lo hi w (wr.setCell ⟨g,j,none⟩ (.int .i64 y))):=hid fun y=>HM.out.trans (Mk.setI c2 hS.lo hS.hi);clear hS HM;go_wp2;go_roundw
   case rel=>exact⟨j+1,by omega,by go_num,by go_num,hid (HN.out _)⟩
   case measure=>simp[intOf];omega
  ·obtain rfl:j=n:=by omega
   have i1:¬((j:Int) < (j:Int)):=by omega
   go_wp2;go_ret;first|exact⟨rfl,HM.out⟩|exact HM.out
def yd(ln:Nat->Nat):Nat->Nat
 |0=>0
 |j+1=>yd ln j+ln j
theorem Jz(ln:Nat->Nat):∀{i j:Nat},i<=j->yd ln i<=yd ln j
 |i,0,h=>by
  have e:i=0:=Nat.le_zero.1 h;subst e;exact nR _
 |i,j+1,h=>by
  by_cases e:i=j+1
  ·rw[e];exact nR _
  ·exact bK (Jz ln (i:=i) (j:=j) (by omega)) (Nat.le_add_right _ _)
theorem Q5(ls:List (List Int)):∀k,k<=ls.length->tot ls k=ls.length+yd (fun i=>(ls.getD i []).length) k
 |0,_=>by rw[Qr];rfl
 |k+1,h=>by rw[jZ ls k (by omega),Q5 ls k (by omega)];show _=ls.length+(yd _ k+(ls.getD k []).length);omega
def ShSS(lo hi:Nat)(W:World)(G n:Nat)(ln:Nat->Nat):Prop:=∀j,j < n->∃c,W.cell? ⟨G,j,none⟩=some (.slice (some ⟨c,0,none⟩) (ln j) (ln j))/\ShI lo hi W c (ln j)
theorem ShSS.kp{lo hi:Nat}{G:Nat}{ln:Nat->Nat}(h:ShSS lo hi W G n ln)(k:Mk lo hi W W'):ShSS lo hi W' G n ln:=fun j hj=>by
 obtain⟨c,e,hc⟩:=h j hj;exact⟨c,k.sl _ _ _ _ _ e,hc.kp k⟩
theorem kh(w:World)(lo hi G n cap k:Nat)(ln:Nat->Nat)(h:ShSS lo hi w G n ln)(hn:n<=1048576)(hs:yd ln n<=1048576)(hk:k<=99511627776):
 Cl 39 #[.slice (some ⟨G,0,none⟩) n cap,.int .i64 (k:Int)] w fun e w'=>e=.returned (.int .i64 ((k+yd ln n:Nat):Int))/\Mk lo hi w w':=by
 have HS:=hid h;have HL:Hid (∀i,i < n->yd ln i+ln i<=1048576):=hid fun i hi=>bK (Jz ln (show i+1<=n from hi)) hs;clear h hs;go_enter Tryz.func39,Tryz.ntmps39
 go_wp2;go_loopw [1,5] (fun u t wr=>∃j:Nat,j<=n/\t=.int .i64 j/\∃c:Nat,u=.int .i64 (c:Int)/\Hid (c=k+yd ln j/\Mk lo hi w wr)) (fun _ t _=>n - (intOf t).toNat)
 case atStart=>exact⟨0,nZ _,rfl,k,rfl,hid ⟨rfl,Mk.refl _ _ _⟩⟩
 case round=>
  obtain⟨j,hj,rfl,c,rfl,HM⟩:=hrel;by_cases hjn:j < n
  ·have i1:(j:Int) < (n:Int):=by omega
   obtain⟨b,c2,hb⟩:=(HS.out.kp HM.out.2) j hjn;have hL:=HL.out j hjn;have K:=hid (yB wr lo hi b (ln j) (ln j) c hb (by omega) (by rw[HM.out.1];omega));have HE:Hid (c+ln j=k+yd ln (j+1)):=hid (by rw[HM.out.1];show _=k+(yd ln j+ln j);omega);have HM2:=hid HM.out.2;clear hb hL HM;generalize ln j=m at *;go_wp2_with fail
   refine K.out.mono ?_;rintro e w2 ⟨rfl,hm⟩;have HN:=hid (HM2.out.trans hm);clear hm K c2;go_wp2_with fail
   go_roundw
   case rel=>exact⟨j+1,by omega,by go_num,_,rfl,hid ⟨HE.out,HN.out⟩⟩
   case measure=>simp[intOf];omega
  ·obtain rfl:j=n:=by omega
   have i1:¬((j:Int) < (j:Int)):=by omega
   go_wp2;go_ret;exact⟨qO (by have:=HM.out.1;omega),HM.out.2⟩
theorem zr:∀a:List Int,qD a a=0
 |[]=>rfl
 |x::a=>by simp[qD,zr a]
theorem xh:∀{a b:List Int},qD a b=0->a=b
 |[],[],_=>rfl
 |[],_::_,h=>by simp[qD]at h
 |_::_,[],h=>by simp[qD]at h
 |x::a,y::b,h=>by
  simp only[qD]at h;split at h
  ·omega
  ·split at h
   ·omega
   ·rw[xh h,show x=y by omega]
theorem vA:∀a b:List Int,qD b a=- qD a b
 |[],[]=>rfl
 |[],_::_=>rfl
 |_::_,[]=>rfl
 |x::a,y::b=>by
  simp only[qD];by_cases h1:x < y
  ·rw[if_neg (by omega),if_pos h1,if_pos h1];rfl
  ·by_cases h2:y < x
   ·rw[if_pos h2,if_neg h1,if_pos h2]
   ·rw[if_neg h2,if_neg h1,if_neg h1,if_neg h2];exact vA a b
theorem xI:∀{a b c:List Int},qD a b < 0->qD b c < 0->qD a c < 0
 |[],[],_,h,_=>by simp[qD]at h
 |[],_::_,[],_,h=>by simp[qD]at h
 |[],_::_,_::_,_,_=>by simp[qD]
 |_::_,[],_,h,_=>by simp[qD]at h
 |_::_,_::_,[],_,h=>by simp[qD]at h
 |x::a,y::b,z::c,h1,h2=>by
  simp only[qD]at h1 h2 ⊢;by_cases e1:x < y
  ·by_cases e2:y < z
   ·rw[if_pos (by omega)];decide
   ·rw[if_neg e2]at h2;by_cases e3:z < y
    ·rw[if_pos e3]at h2;omega
    ·rw[if_pos (by omega)];decide
  ·rw[if_neg e1]at h1;by_cases e2:y < x
   ·rw[if_pos e2]at h1;omega
   ·rw[if_neg e2]at h1;by_cases e3:y < z
    ·rw[if_pos (by omega)];decide
    ·rw[if_neg e3]at h2;by_cases e4:z < y
     ·rw[if_pos e4]at h2;omega
     ·rw[if_neg e4]at h2;rw[if_neg (by omega),if_neg (by omega)];exact xI h1 h2
def SL(l:List (List Int)):Prop:=l.Pairwise fun a b=>qD a b < 0
theorem SL.uniq:∀{a b:List (List Int)},SL a->SL b->(∀x,x∈a↔x∈b)->a=b
 |[],[],_,_,_=>rfl
 |[],y::b,_,_,h=>by have:=(h y).2 (List.mem_cons_self ..);cases this
 |x::a,[],_,_,h=>by have:=(h x).1 (List.mem_cons_self ..);cases this
 |x::a,y::b,ha,hb,h=>by
  unfold SL at ha hb;rw[List.pairwise_cons]at ha hb
  have hxy:x=y:=by
   rcases List.mem_cons.1 ((h x).1 (List.mem_cons_self ..))with e|e
   ·exact e
   ·rcases List.mem_cons.1 ((h y).2 (List.mem_cons_self ..))with e2|e2
    ·exact e2.symm
    ·have h1:=hb.1 x e;have h2:=ha.1 y e2;have:=xI h1 h2;rw[zr]at this;omega
  subst hxy;rw[SL.uniq (a:=a) (b:=b) ha.2 hb.2 fun z=>?_];constructor
  ·intro hz;rcases List.mem_cons.1 ((h z).1 (mC _ hz))with e|e
   ·subst e;have:=ha.1 _ hz;rw[zr]at this;omega
   ·exact e
  ·intro hz;rcases List.mem_cons.1 ((h z).2 (mC _ hz))with e|e
   ·subst e;have:=hb.1 _ hz;rw[zr]at this;omega
   ·exact e
def mrgX(x:List Int)(f:List (List Int)->List (List Int))(c:List (List Int)):List (List Int)->List (List Int)
 |[]=>c
 |y::b=>if qD x y<0 then x::f (y::b) else if 0<qD x y then y::mrgX x f c b else x::f b
def mrg:List (List Int)->List (List Int)->List (List Int)
 |[]=>fun b=>b
 |x::a=>mrgX x (mrg a) (x::a)
theorem xS(b:List (List Int)):mrg [] b=b:=rfl
theorem xe(a:List (List Int)):mrg a []=a:=by cases a <;> rfl
theorem Z6{x y:List Int}{a b:List (List Int)}(h:qD x y < 0):mrg (x::a) (y::b)=x::mrg a (y::b):=if_pos h
theorem Z7{x y:List Int}{a b:List (List Int)}(h:0 < qD x y):mrg (x::a) (y::b)=y::mrg (x::a) b:=(if_neg (by omega)).trans (if_pos h)
theorem Z8{x y:List Int}{a b:List (List Int)}(h1:¬qD x y < 0)(h2:¬0 < qD x y):mrg (x::a) (y::b)=x::mrg a b:=(if_neg h1).trans (if_neg h2)
theorem vB(z:List Int):∀(n:Nat) (a b:List (List Int)),a.length+b.length<=n->(z∈mrg a b↔z∈a∨z∈b)
 |n,[],b,_=>by rw[xS];simp
 |n,x::a,[],_=>by rw[xe];simp
 |n+1,x::a,y::b,h=>by
  simp only[List.length_cons]at h;by_cases h1:qD x y < 0
  ·rw[Z6 h1,List.mem_cons,vB z n a (y::b) (by simp only[List.length_cons];omega),List.mem_cons,List.mem_cons,or_assoc]
  ·by_cases h2:0 < qD x y
   ·rw[Z7 h2,List.mem_cons,vB z n (x::a) b (by simp only[List.length_cons];omega),List.mem_cons,List.mem_cons];constructor
    ·rintro (h|(h|h)|h)
     ·exact Or.inr (Or.inl h)
     ·exact Or.inl (Or.inl h)
     ·exact Or.inl (Or.inr h)
     ·exact Or.inr (Or.inr h)
    ·rintro ((h|h)|(h|h))
     ·exact Or.inr (Or.inl (Or.inl h))
     ·exact Or.inr (Or.inl (Or.inr h))
     ·exact Or.inl h
     ·exact Or.inr (Or.inr h)
   ·have e:x=y:=xh (by omega);subst e;rw[Z8 h1 h2,List.mem_cons,vB z n a b (by omega),List.mem_cons,List.mem_cons];constructor
    ·rintro (h|h|h)
     ·exact Or.inl (Or.inl h)
     ·exact Or.inl (Or.inr h)
     ·exact Or.inr (Or.inr h)
    ·rintro ((h|h)|(h|h))
     ·exact Or.inl h
     ·exact Or.inr (Or.inl h)
     ·exact Or.inl h
     ·exact Or.inr (Or.inr h)
 |0,x::a,y::b,h=>by simp only[List.length_cons]at h;omega
theorem SL.mrg:∀(n:Nat) (a b:List (List Int)),a.length+b.length<=n->SL a->SL b->SL (mrg a b)
 |n,[],b,_,_,hb=>by rw[xS];exact hb
 |n,x::a,[],_,ha,_=>by rw[xe];exact ha
 |0,x::a,y::b,h,_,_=>by simp only[List.length_cons]at h;omega
 |n+1,x::a,y::b,h,ha,hb=>by
  simp only[List.length_cons]at h;have ha':=List.pairwise_cons.1 ha;have hb':=List.pairwise_cons.1 hb;by_cases h1:qD x y < 0
  ·rw[Z6 h1];refine List.pairwise_cons.2 ⟨fun z hz=>?_,SL.mrg n a (y::b) (by simp only[List.length_cons];omega) ha'.2 hb⟩;rcases (vB z _ a (y::b) (nR _)).1 hz with h|h
   ·exact ha'.1 z h
   ·rcases List.mem_cons.1 h with rfl|h
    ·exact h1
    ·exact xI h1 (hb'.1 z h)
  ·by_cases h2:0 < qD x y
   ·have h3:qD y x < 0:=by rw[vA];omega
    rw[Z7 h2];refine List.pairwise_cons.2 ⟨fun z hz=>?_,SL.mrg n (x::a) b (by simp only[List.length_cons];omega) ha hb'.2⟩;rcases (vB z _ (x::a) b (nR _)).1 hz with h|h
    ·rcases List.mem_cons.1 h with rfl|h
     ·exact h3
     ·exact xI h3 (ha'.1 z h)
    ·exact hb'.1 z h
   ·have e:x=y:=xh (by omega);subst e;rw[Z8 h1 h2];refine List.pairwise_cons.2 ⟨fun z hz=>?_,SL.mrg n a b (by omega) ha'.2 hb'.2⟩;rcases (vB z _ a b (nR _)).1 hz with h|h
    ·exact ha'.1 z h
    ·exact hb'.1 z h
def srt:List (List Int)->List (List Int):=WellFounded.fix (measure List.length).wf fun l f=>if h:l.length < 2 then l else mrg (f (l.take (l.length / 2)) (by show List.length _<List.length _;simp only[List.length_take];omega)) (f (l.drop (l.length / 2)) (by show List.length _<List.length _;simp only[List.length_drop];omega))
theorem vP{l:List (List Int)}(h:l.length < 2):srt l=l:=by rw[srt,WellFounded.fix_eq,dif_pos h]
theorem ZH{l:List (List Int)}(h:¬l.length < 2):srt l=mrg (srt (l.take (l.length / 2))) (srt (l.drop (l.length / 2))):=by rw[srt,WellFounded.fix_eq,dif_neg h]
theorem yk:∀(n:Nat) (l:List (List Int)),l.length<=n->SL (srt l)/\∀z,z∈srt l↔z∈l
 |n,l,h=>by
  by_cases h2:l.length < 2
  ·rw[vP h2];refine⟨?_,fun z=>Iff.rfl⟩;match l,h2 with
   |[],_=>exact List.Pairwise.nil
   |[x],_=>exact List.pairwise_singleton _ _
  ·rw[ZH h2];match n with
   |0=>omega
   |n+1=>
    obtain⟨a1,a2⟩:=yk n (l.take (l.length / 2)) (by rw[bQ];omega);obtain⟨b1,b2⟩:=yk n (l.drop (l.length / 2)) (by rw[List.length_drop];omega);refine⟨SL.mrg _ _ _ (nR _) a1 b1,fun z=>?_⟩;rw[vB z _ _ _ (nR _),a2,b2,<-List.mem_append,tD]
theorem yF:∀(n:Nat) (a b:List (List Int)),a.length+b.length<=n->(mrg a b).length<=a.length+b.length
 |n,[],b,_=>by rw[xS];simp
 |n,x::a,[],_=>by rw[xe];simp
 |0,x::a,y::b,h=>by simp only[List.length_cons]at h;omega
 |n+1,x::a,y::b,h=>by
  simp only[List.length_cons]at h;by_cases h1:qD x y < 0
  ·have:=yF n a (y::b) (by simp only[List.length_cons];omega);rw[Z6 h1];simp only[List.length_cons]at this ⊢;omega
  ·by_cases h2:0 < qD x y
   ·have:=yF n (x::a) b (by simp only[List.length_cons];omega);rw[Z7 h2];simp only[List.length_cons]at this ⊢;omega
   ·have:=yF n a b (by omega);rw[Z8 h1 h2];simp only[List.length_cons];omega
theorem x8:∀(n:Nat) (l:List (List Int)),l.length<=n->(srt l).length<=l.length
 |n,l,h=>by
  by_cases h2:l.length < 2
  ·rw[vP h2];exact nR _
  ·rw[ZH h2];match n with
   |0=>omega
   |n+1=>
    have a1:=x8 n (l.take (l.length / 2)) (by rw[bQ];omega);have b1:=x8 n (l.drop (l.length / 2)) (by rw[List.length_drop];omega);have c1:=yF _ (srt (l.take (l.length / 2))) (srt (l.drop (l.length / 2))) (nR _);rw[bQ]at a1;rw[List.length_drop]at b1;omega
def cpt:List (List Int)->List (List Int)
 |[]=>[]
 |[x]=>[x]
 |x::y::l=>if x=y then cpt (y::l) else x::cpt (y::l)
theorem QP(z:List Int):∀l:List (List Int),z∈cpt l↔z∈l
 |[]=>Iff.rfl
 |[x]=>Iff.rfl
 |x::y::l=>by
  rw[cpt];split
  ·rename_i e;subst e;rw[QP z (x::l)];simp
  ·rw[List.mem_cons,QP z (y::l),List.mem_cons (a:=z) (b:=x)]
theorem SL.cpt:∀l:List (List Int),(l.Pairwise fun a b=>¬qD b a < 0)->SL (cpt l)
 |[],_=>List.Pairwise.nil
 |[x],_=>List.pairwise_singleton _ _
 |x::y::l,h=>by
  have h':=List.pairwise_cons.1 h;rw[Go.Proofs.YtjbpgdpciinlcaaGreat.cpt];split
  ·exact SL.cpt (y::l) h'.2
  ·rename_i ne;refine List.pairwise_cons.2 ⟨fun z hz=>?_,SL.cpt (y::l) h'.2⟩;rw[QP]at hz;have h1:=h'.1 z hz;have h2:=h'.1 y (List.mem_cons_self ..)
   have hy:¬qD z y < 0:=by
    rcases List.mem_cons.1 hz with rfl|h3
    ·rw[zr];omega
    ·exact(List.pairwise_cons.1 h'.2).1 z h3
   have hxy:qD x y < 0:=by
    have e1:=vA x y;rcases Int.lt_trichotomy (qD x y) 0 with h|h|h
    ·exact h
    ·exact absurd (xh h) ne
    ·omega
   have e2:=vA y z;rcases Int.lt_trichotomy (qD y z) 0 with h|h|h
   ·exact xI hxy h
   ·rw[<-xh h];exact hxy
   ·omega
theorem qDf{l l':List (List Int)}(hs:l'.Pairwise fun a b=>¬qD b a < 0)(hm:∀z,z∈l'↔z∈l):cpt l'=srt l:=by
 obtain⟨a,b⟩:=yk _ l (nR _);exact SL.uniq (SL.cpt l' hs) a fun z=>by rw[QP,b,hm]
theorem Uv(h:p++[y] <+:s):p.length < s.length/\(∀i,i < p.length->s.getD i 0=p.getD i 0)/\s.getD p.length 0=y:=by
 obtain⟨t,rfl⟩:=h;refine⟨by simp,fun i hi=>?_,?_⟩
 ·rw[gD,gD,List.append_assoc,aL hi]
 ·rw[gD,List.append_assoc,bN (nR _),Nat.sub_self];rfl
theorem qBd(h1:p++[y] <+:s)(h2:p++[x] <+:r)(h:qD s r < 0):y<=x:=by
 obtain⟨a1,a2,a3⟩:=Uv h1;obtain⟨b1,b2,b3⟩:=Uv h2;rcases Int.lt_or_le x y with h3|h3
 ·have:=XH (a:=s) (b:=r) a1 b1 (fun i hi=>by rw[a2 i hi,b2 i hi]) (by rw[a3,b3];exact h3);omega
 ·exact h3
theorem Uw{a:Int}:p <+:l++[a]↔p=l++[a]∨p <+:l:=by
 rw[List.prefix_concat_iff]
theorem qm{i:Nat}(h:i < r.length):r.take (i+1)=r.take i++[r.getD i 0]:=by
 rw[tA,gE h,gD,gE h];rfl
theorem jt(h:p++[x]=q++[y]):p=q/\x=y:=by
 have:=List.append_inj' h rfl;exact⟨this.1,by simpa using this.2⟩
structure TM(rs:List (List Int))(D:List Int->Prop)(N:List Int->List Int):Prop where
 dom:∀p,D p↔p=[]∨∃r∈rs,p <+:r
 mem:∀p,D p->∀x,x∈N p↔D (p++[x])
 asc:∀p,D p->(N p).Pairwise (·< ·)
theorem TM.none:TM [] (fun p=>p=[]) (fun _=>[]):=
 ⟨fun p=>by simp,fun p _ x=>by simp,fun p _=>List.Pairwise.nil⟩
theorem TM.pre{rs:List (List Int)}{D:List Int->Prop}{N:List Int->List Int}(h:TM rs D N)(hq:D q)(hp:p <+:q):D p:=by
 rw[h.dom]at hq ⊢;rcases hq with rfl|⟨r,hr,hr'⟩
 ·exact Or.inl (List.prefix_nil.1 hp)
 ·exact Or.inr ⟨r,hr,hp.trans hr'⟩
section
variable {rs:List (List Int)} {r:List Int} {i:Nat} {D:List Int->Prop} {N:List Int->List Int}
theorem TM.begin(h:TM rs D N):TM (rs++[r.take 0]) D N:=
 ⟨fun p=>by
  rw[h.dom];constructor
  ·rintro (h1|⟨s,hs,h1⟩)
   ·exact Or.inl h1
   ·exact Or.inr ⟨s,List.mem_append_left _ hs,h1⟩
  ·rintro (h1|⟨s,hs,h1⟩)
   ·exact Or.inl h1
   ·rcases List.mem_append.1 hs with h2|h2
    ·exact Or.inr ⟨s,h2,h1⟩
    ·simp at h2;subst h2;exact Or.inl (List.prefix_nil.1 h1),h.mem,h.asc⟩
theorem TM.here(h:TM (rs++[r.take i]) D N):D (r.take i):=(h.dom _).2 (Or.inr ⟨r.take i,by simp,List.prefix_refl _⟩)
theorem TM.le(h:TM (rs++[r.take i]) D N)(hi:i < r.length)(hs:∀s∈rs,qD s r < 0):∀y∈N (r.take i),y<=r.getD i 0:=fun y hy=>by
 rw[h.mem _ h.here,h.dom]at hy;rcases hy with h1|⟨s,hs',h1⟩
 ·simp at h1
 ·rcases List.mem_append.1 hs' with h2|h2
  ·refine qBd h1 (r:=r) ?_ (hs s h2);rw[<-qm hi];exact List.take_prefix _ _
  ·simp at h2;subst h2;have:=h1.length_le;simp at this;omega
theorem Ux(h:TM (rs++[r.take i]) D N)(hi:i < r.length)(p:List Int):(p=[]∨∃s∈rs++[r.take (i+1)],p <+:s)↔D p∨p=r.take i++[r.getD i 0]:=by
 rw[h.dom];constructor
 ·rintro (h1|⟨s,hs,h1⟩)
  ·exact Or.inl (Or.inl h1)
  ·rcases List.mem_append.1 hs with h2|h2
   ·exact Or.inl (Or.inr ⟨s,List.mem_append_left _ h2,h1⟩)
   ·simp only[List.mem_singleton]at h2;subst h2;rw[qm hi,Uw]at h1;rcases h1 with h1|h1
    ·exact Or.inr h1
    ·exact Or.inl (Or.inr ⟨_,List.mem_append_right _ (List.mem_singleton.2 rfl),h1⟩)
 ·rintro ((h1|⟨s,hs,h1⟩)|h1)
  ·exact Or.inl h1
  ·rcases List.mem_append.1 hs with h2|h2
   ·exact Or.inr ⟨s,List.mem_append_left _ h2,h1⟩
   ·simp only[List.mem_singleton]at h2;subst h2;refine Or.inr ⟨r.take (i+1),List.mem_append_right _ (List.mem_singleton.2 rfl),?_⟩;rw[qm hi,Uw];exact Or.inr h1
  ·refine Or.inr ⟨r.take (i+1),List.mem_append_right _ (List.mem_singleton.2 rfl),?_⟩;rw[qm hi,h1];exact List.prefix_refl _
theorem TM.hit(h:TM (rs++[r.take i]) D N)(hi:i < r.length)(hx:r.getD i 0∈N (r.take i)):TM (rs++[r.take (i+1)]) D N:=
 ⟨fun p=>by
  rw[Ux h hi];constructor
  ·exact Or.inl
  ·rintro (h1|h1)
   ·exact h1
   ·rw[h1];exact(h.mem _ h.here _).1 hx,h.mem,h.asc⟩
def qCf(D:List Int->Prop)(q:List Int):List Int->Prop:=fun p=>D p∨p=q
def uT(N:List Int->List Int)(p:List Int)(x:Int):List Int->List Int:=fun q=>if q=p then N p++[x] else if q=p++[x] then [] else N q
theorem QQ(p:List Int)(x:Int):p++[x]≠p:=fun e=>by have:=congrArg List.length e;simp at this
theorem TM.miss(h:TM (rs++[r.take i]) D N)(hi:i < r.length)(hs:∀s∈rs,qD s r < 0)(hx:r.getD i 0∉N (r.take i)):
 TM (rs++[r.take (i+1)]) (qCf D (r.take i++[r.getD i 0])) (uT N (r.take i) (r.getD i 0)):=by
 have hle:=h.le hi hs;have hh:=h.here;have hno:¬D (r.take i++[r.getD i 0]):=fun hd=>hx ((h.mem _ hh _).2 hd);have hdom:=Ux h hi;generalize r.take (i+1)=r1 at *;generalize r.take i=p0 at *;generalize r.getD i 0=x at *;refine⟨fun p=>(hdom p).symm,fun q hq y=>?_,fun q hq=>?_⟩
 ·unfold uT qCf;by_cases e1:q=p0
  ·subst e1;rw[if_pos rfl,List.mem_append,List.mem_singleton,h.mem _ hh];constructor
   ·rintro (h1|h1)
    ·exact Or.inl h1
    ·exact Or.inr (by rw[h1])
   ·rintro (h1|h1)
    ·exact Or.inl h1
    ·exact Or.inr (jt h1).2
  ·rw[if_neg e1];by_cases e2:q=p0++[x]
   ·subst e2;rw[if_pos rfl];constructor
    ·intro h1;cases h1
    ·rintro (h1|h1)
     ·exact absurd (h.pre h1 (List.prefix_append _ _)) hno
     ·exact absurd h1 (QQ _ _)
   ·rw[if_neg e2,h.mem _ (hq.resolve_right e2)];constructor
    ·exact Or.inl
    ·rintro (h1|h1)
     ·exact h1
     ·exact absurd (jt h1).1 e1
 ·unfold uT;by_cases e1:q=p0
  ·subst e1;rw[if_pos rfl,List.pairwise_append];refine⟨h.asc _ hh,List.pairwise_singleton _ _,fun y hy z hz=>?_⟩;rw[List.mem_singleton]at hz;subst hz;have:=hle y hy;rcases Int.lt_or_eq_of_le this with h1|h1
   ·exact h1
   ·subst h1;exact absurd hy hx
  ·rw[if_neg e1];by_cases e2:q=p0++[x]
   ·rw[if_pos e2];exact List.Pairwise.nil
   ·rw[if_neg e2];exact h.asc _ (hq.resolve_right e2)
theorem TM.done(h:TM (rs++[r.take r.length]) D N):TM (rs++[r]) D N:=by rw[tL]at h;exact h
end
theorem qDl(ha:l.Pairwise (·< ·))(hm:x∈l)(hle:∀y∈l,y<=x):0 < l.length/\l.getD (l.length - 1) 0=x:=by
 have h0:0 < l.length:=List.length_pos_of_mem hm;refine⟨h0,?_⟩;obtain⟨j,hj,e⟩:=gO hm;have hl:l.getD (l.length - 1) 0=l[l.length - 1]'(by omega):=by rw[gD,gE (by omega)];rfl
 have h1:=hle _ (gM (h:=(by omega:l.length - 1 < l.length)));rw[hl];by_cases e2:j=l.length - 1
 ·subst e2;exact e
 ·have:=List.pairwise_iff_getElem.1 ha j (l.length - 1) hj (by omega) (by omega);omega
theorem qCg(hm:x∉l)(h0:0 < l.length):l.getD (l.length - 1) 0≠x:=fun e=>hm (by
 rw[<-e,gD,gE (by omega)];exact gM _)
end Go.Proofs.YtjbpgdpciinlcaaGreat
