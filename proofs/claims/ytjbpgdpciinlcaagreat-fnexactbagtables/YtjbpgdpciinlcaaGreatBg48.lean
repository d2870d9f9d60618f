import Derived.Test.YtjbpgdpciinlcaaGreatBg09
set_option maxHeartbeats 40000000
set_option maxRecDepth 1000000
namespace Go.Proofs.YtjbpgdpciinlcaaGreat
open Go.RowKit
theorem JD(w:World)(lo hi g n cap k:Nat)(h:ShI lo hi w g (n*2))(hn:n<=1048576)(hk:k<=1099511627776):
 Cl 40 #[.slice (some ⟨g,0,none⟩) n cap,.int .i64 (k:Int)] w fun e w'=>e=.returned (.int .i64 ((k+n*2:Nat):Int))/\Mk lo hi w w':=by
 have HS:=hid h;clear h;go_enter Tryz.func40,Tryz.ntmps40
 go_wp2;go_loopw [1,5] (fun u t wr=>∃j:Nat,j<=n/\t=.int .i64 j/\u=.int .i64 ((k+j*2:Nat):Int)/\Hid (Mk lo hi w wr)) (fun _ t _=>n - (intOf t).toNat)
 case atStart=>exact⟨0,nZ _,rfl,rfl,hid (Mk.refl _ _ _)⟩
 case round=>
  obtain⟨j,hj,rfl,rfl,HM⟩:=hrel;by_cases hjn:j < n
  ·have i1:(j:Int) < (n:Int):=by omega
   have hS:=HS.out.kp HM.out;obtain⟨x,c2⟩:=hS.cell (j*2) (by omega);obtain⟨y,c3⟩:=hS.cell (j*2+1) (by omega);have f2:=hS.free (j*2) (by omega);have f3:=hS.free (j*2+1) (by omega);have HN:Hid (∀a b:Int,Mk lo hi w ((wr.setCell ⟨g,j*2,none⟩ (.int .i64 a)).setCell ⟨g,j*2+1,none⟩ (.int .i64 b))):=hid fun a b=>(HM.out.trans (Mk.setI c2 hS.lo hS.hi)).trans (Mk.setI (x:=y) ((bC _ _ _ _ (by intro e;simp only[Addr.mk.injEq]at e;omega)).trans c3) hS.lo hS.hi);clear hS HM;go_wp2;go_roundw
   case rel=>exact⟨j+1,by omega,by go_num,by go_num,hid (HN.out _ _)⟩
   case measure=>simp[intOf];omega
  ·obtain rfl:j=n:=by omega
   have i1:¬((j:Int) < (j:Int)):=by omega
   go_wp2;go_ret;first|exact⟨rfl,HM.out⟩|exact HM.out
structure ShPl(lo hi:Nat)(W:World)(g0 g1 g2 g3:Nat)(bs:List (List Int))(np nh nw:Nat):Prop where
 b:ShSS lo hi W g0 bs.length (fun j=>(bs.getD j []).length)
 p:ShI lo hi W g1 np
 h:ShI lo hi W g2 nh
 d:ShI lo hi W g3 (nw*2)
theorem ShPl.kp{lo hi:Nat}{W W':World}{g0 g1 g2 g3:Nat}{bs:List (List Int)}{np nh nw:Nat}(h:ShPl lo hi W g0 g1 g2 g3 bs np nh nw)(k:Mk lo hi W W'):ShPl lo hi W' g0 g1 g2 g3 bs np nh nw:=⟨h.b.kp k,h.p.kp k,h.h.kp k,h.d.kp k⟩
theorem JE(w:World)(lo hi g0 g1 g2 g3 k np nh nw c0 c1 c2 c3:Nat)(x y:Int)(bs:List (List Int))(h:ShPl lo hi w g0 g1 g2 g3 bs np nh nw)(hb:tot bs bs.length<=1048576)(hp:np<=1048576)(hhn:nh<=1048576)(hw:nw<=1048576)(hk:k<=10000000):
 Cl 13 #[.agg #[.slice (some ⟨g0,0,none⟩) bs.length c0,.slice (some ⟨g1,0,none⟩) np c1,.slice (some ⟨g2,0,none⟩) nh c2,.slice (some ⟨g3,0,none⟩) nw c3,.int .i64 x,.int .i64 y],.int .i64 (k:Int)] w fun e w'=>∃z:Nat,e=.returned (.int .i64 (z:Int))/\Mk lo hi w w':=by
 have hsn:=Q5 bs bs.length (nR _);have hsz:bs.length<=1048576:=by unfold tot at hb;omega
 obtain⟨W1,hW1⟩:∃W1,W1=w.alloc (.cells #[.slice (some ⟨g0,0,none⟩) bs.length c0,.slice (some ⟨g1,0,none⟩) np c1,.slice (some ⟨g2,0,none⟩) nh c2,.slice (some ⟨g3,0,none⟩) nw c3,.int .i64 x,.int .i64 y] 39):=⟨_,rfl⟩;have hB1:Bl w W1:=by rw[hW1];exact(bI _ _).alloc (nR _) _
 have HM1:Hid (Mk lo hi w W1):=hid (Mk.of_below hB1);have HS:Hid (∀W,Mk lo hi W1 W->ShPl lo hi W g0 g1 g2 g3 bs np nh nw):=hid fun W hW=>(h.kp HM1.out).kp hW;have q0:W1.cell? ⟨w.heap.size,0,none⟩=some (.slice (some ⟨g0,0,none⟩) bs.length c0):=by rw[hW1,cA _ _ _ _ rfl];rfl
 have q1:W1.cell? ⟨w.heap.size,1,none⟩=some (.slice (some ⟨g1,0,none⟩) np c1):=by rw[hW1,cA _ _ _ _ rfl];rfl
 have q2:W1.cell? ⟨w.heap.size,2,none⟩=some (.slice (some ⟨g2,0,none⟩) nh c2):=by rw[hW1,cA _ _ _ _ rfl];rfl
 have q3:W1.cell? ⟨w.heap.size,3,none⟩=some (.slice (some ⟨g3,0,none⟩) nw c3):=by rw[hW1,cA _ _ _ _ rfl];rfl
 obtain⟨L,hL⟩:∃L,L=yd (fun j=>(bs.getD j []).length) bs.length:=⟨_,rfl⟩;have K0:=hid (kh W1 lo hi g0 bs.length c0 k _ (HS.out W1 (Mk.refl _ _ _)).b hsz (by omega) (by omega));rw[<-hL]at K0;have hLb:L<=1048576:=by omega
 have K1:Hid (∀W,Mk lo hi W1 W->Cl 38 #[.slice (some ⟨g1,0,none⟩) np c1,.int .i64 ((k+L:Nat):Int)] W fun e w'=>e=.returned (.int .i64 ((k+L+np:Nat):Int))/\Mk lo hi W w'):=hid fun W hW=>yB W lo hi g1 np c1 (k+L) (HS.out W hW).p hp (by omega);have K2:Hid (∀W,Mk lo hi W1 W->Cl 38 #[.slice (some ⟨g2,0,none⟩) nh c2,.int .i64 ((k+L+np:Nat):Int)] W fun e w'=>e=.returned (.int .i64 ((k+L+np+nh:Nat):Int))/\Mk lo hi W w'):=hid fun W hW=>yB W lo hi g2 nh c2 (k+L+np) (HS.out W hW).h hhn (by omega);have K3:Hid (∀W,Mk lo hi W1 W->Cl 40 #[.slice (some ⟨g3,0,none⟩) nw c3,.int .i64 ((k+L+np+nh:Nat):Int)] W fun e w'=>e=.returned (.int .i64 ((k+L+np+nh+nw*2:Nat):Int))/\Mk lo hi W w'):=hid fun W hW=>JD W lo hi g3 nw c3 (k+L+np+nh) (HS.out W hW).d hw (by omega);clear HS h hB1 hsn hL;generalize bs.length=nb at *;go_enter Tryz.func13,Tryz.ntmps13
 go_upto_region 1 with fail
 rw[<-hW1];clear hW1;go_wp2_with fail
 refine K0.out.mono ?_;rintro e w2 ⟨rfl,m2⟩;have r1:=m2.sl _ _ _ _ _ q1;go_wp2_with fail
 refine(K1.out w2 m2).mono ?_;rintro e w3 ⟨rfl,m3'⟩;have m3:=m2.trans m3';have r2:=m3.sl _ _ _ _ _ q2;go_wp2_with fail
 refine(K2.out w3 m3).mono ?_;rintro e w4 ⟨rfl,m4'⟩;have m4:=m3.trans m4';have r3:=m4.sl _ _ _ _ _ q3;go_wp2_with fail
 refine(K3.out w4 m4).mono ?_;rintro e w5 ⟨rfl,m5'⟩;have m5:=m4.trans m5';go_wp2_with fail
 go_ret;exact⟨_,rfl,HM1.out.trans m5⟩
end Go.Proofs.YtjbpgdpciinlcaaGreat
